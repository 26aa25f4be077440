/-
 Merged: U33 U55 Ue Uqm U17 Uf U56.
-/
import Derived.Test.YtjlpfpigggdemaaDoorMh33
import Derived.Test.YtjlpfpigggdemaaDoorMh20
import Derived.Test.YtjlpfpigggdemaaDoorMh27
import Derived.Test.YtjlpfpigggdemaaDoorMh6
import Derived.Test.YtjlpfpigggdemaaDoorMh2
import Derived.Laws.ResultCell
import Derived.Deep.RegionWith
import Derived.WideShapes
import Derived.ProofKit
import Derived.OpenShut
import Derived.ShutString
import Derived.ChangeOld
import Derived.Below
import Derived.Great.BuildSlice
namespace Go.Proofs.YtjlpfpigggdemaaDoor
set_option maxRecDepth 8000
set_option maxHeartbeats 4000000
open Go.RowKit Va Uo
set_option linter.all false
set_option maxRecDepth 20000 in
set_option maxHeartbeats 16000000 in
theorem zir (ao : Option Addr) (cap : Nat) (ad : Option Addr) (dcap : Nat) (os : List Od) (ds : List Ds) (x : Dd) (w : World) (h : Cp.CRw w (.slice ao os.length cap) (.slice ad ds.length dcap) os ds) (hn : os.length <= 1048576) (hm : ds.length <= 1048576) (hc : jm os ds = false) :
  Calls Tryd.prog 8 #[.agg #[.slice ao os.length cap, .slice ad ds.length dcap], aDd x] w (fun e w' => e = .returned (.tuple #[.agg #[.slice none 0 0, .slice none 0 0], .int .i64 1]) /\ Below w.heap.size w w') := by
 have HH := hidden h
 clear h
 have hb0 : Below w.heap.size w (((w.alloc (.cells #[.slice ao os.length cap, .slice ad ds.length dcap] 27)).alloc (.cells #[.int .i64 x.k, .int .i64 x.o.id, .int .i64 x.o.p, .int .i64 x.o.d, .int .i64 x.o.n, .int .i64 x.o.f, .int .i64 x.o.e, .int .i64 x.o.c, .int .i64 x.o.s, .bool x.o.two, .int .i64 x.id, .int .i64 x.p, .int .i64 x.d, .int .i64 x.n, .int .i64 x.m, .int .i64 x.b, .int .i64 x.a] 31)).alloc (.cells #[.slice none 0 0, .slice none 0 0] 27)) := (((Below.refl _ _).alloc (Nat.le_refl _) _).alloc (by first | omega | (simp; done) | (simp; omega)) _).alloc (by first | omega | (simp; done) | (simp; omega)) _
 have p2 : PB (((w.alloc (.cells #[.slice ao os.length cap, .slice ad ds.length dcap] 27)).alloc (.cells #[.int .i64 x.k, .int .i64 x.o.id, .int .i64 x.o.p, .int .i64 x.o.d, .int .i64 x.o.n, .int .i64 x.o.f, .int .i64 x.o.e, .int .i64 x.o.c, .int .i64 x.o.s, .bool x.o.two, .int .i64 x.id, .int .i64 x.p, .int .i64 x.d, .int .i64 x.n, .int .i64 x.m, .int .i64 x.b, .int .i64 x.a] 31)).alloc (.cells #[.slice none 0 0, .slice none 0 0] 27)) w.heap.size #[.slice ao os.length cap, .slice ad ds.length dcap] 27 := ((PB.new w _ _).alloc _).alloc _
 have p3 : PB (((w.alloc (.cells #[.slice ao os.length cap, .slice ad ds.length dcap] 27)).alloc (.cells #[.int .i64 x.k, .int .i64 x.o.id, .int .i64 x.o.p, .int .i64 x.o.d, .int .i64 x.o.n, .int .i64 x.o.f, .int .i64 x.o.e, .int .i64 x.o.c, .int .i64 x.o.s, .bool x.o.two, .int .i64 x.id, .int .i64 x.p, .int .i64 x.d, .int .i64 x.n, .int .i64 x.m, .int .i64 x.b, .int .i64 x.a] 31)).alloc (.cells #[.slice none 0 0, .slice none 0 0] 27)) (w.heap.size + 1) #[.int .i64 x.k, .int .i64 x.o.id, .int .i64 x.o.p, .int .i64 x.o.d, .int .i64 x.o.n, .int .i64 x.o.f, .int .i64 x.o.e, .int .i64 x.o.c, .int .i64 x.o.s, .bool x.o.two, .int .i64 x.id, .int .i64 x.p, .int .i64 x.d, .int .i64 x.n, .int .i64 x.m, .int .i64 x.b, .int .i64 x.a] 31 := (PB.alloc (by have := PB.new (w.alloc (.cells #[.slice ao os.length cap, .slice ad ds.length dcap] 27)) #[.int .i64 x.k, .int .i64 x.o.id, .int .i64 x.o.p, .int .i64 x.o.d, .int .i64 x.o.n, .int .i64 x.o.f, .int .i64 x.o.e, .int .i64 x.o.c, .int .i64 x.o.s, .bool x.o.two, .int .i64 x.id, .int .i64 x.p, .int .i64 x.d, .int .i64 x.n, .int .i64 x.m, .int .i64 x.b, .int .i64 x.a] 31; simpa using this) _)
 have p4 : PB (((w.alloc (.cells #[.slice ao os.length cap, .slice ad ds.length dcap] 27)).alloc (.cells #[.int .i64 x.k, .int .i64 x.o.id, .int .i64 x.o.p, .int .i64 x.o.d, .int .i64 x.o.n, .int .i64 x.o.f, .int .i64 x.o.e, .int .i64 x.o.c, .int .i64 x.o.s, .bool x.o.two, .int .i64 x.id, .int .i64 x.p, .int .i64 x.d, .int .i64 x.n, .int .i64 x.m, .int .i64 x.b, .int .i64 x.a] 31)).alloc (.cells #[.slice none 0 0, .slice none 0 0] 27)) (w.heap.size + 1 + 1) #[.slice none 0 0, .slice none 0 0] 27 := by have := PB.new ((w.alloc (.cells #[.slice ao os.length cap, .slice ad ds.length dcap] 27)).alloc (.cells #[.int .i64 x.k, .int .i64 x.o.id, .int .i64 x.o.p, .int .i64 x.o.d, .int .i64 x.o.n, .int .i64 x.o.f, .int .i64 x.o.e, .int .i64 x.o.c, .int .i64 x.o.s, .bool x.o.two, .int .i64 x.id, .int .i64 x.p, .int .i64 x.d, .int .i64 x.n, .int .i64 x.m, .int .i64 x.b, .int .i64 x.a] 31)) #[.slice none 0 0, .slice none 0 0] 27; simpa using this
 have HC := hidden hc
 clear hc
 unfold aDd
 go_enter Tryd.func8, Tryd.ntmps8
 go_upto_region 1 with fail
 generalize (((w.alloc (.cells #[.slice ao os.length cap, .slice ad ds.length dcap] 27)).alloc (.cells #[.int .i64 x.k, .int .i64 x.o.id, .int .i64 x.o.p, .int .i64 x.o.d, .int .i64 x.o.n, .int .i64 x.o.f, .int .i64 x.o.e, .int .i64 x.o.c, .int .i64 x.o.s, .bool x.o.two, .int .i64 x.id, .int .i64 x.p, .int .i64 x.d, .int .i64 x.n, .int .i64 x.m, .int .i64 x.b, .int .i64 x.a] 31)).alloc (.cells #[.slice none 0 0, .slice none 0 0] 27)) = W0 at *
 have hR0 := HH.out.below hb0
 have g4 : w.heap.size <= w.heap.size + 1 + 1 := by omega
 have HK := hidden (zgf ao os.length cap ad ds.length dcap os ds W0 hR0.1 hR0.2 hn hm)
 have e20 : W0.cell? ⟨w.heap.size, 0, none⟩ = some _ := p2.cell 0
 have e21 : W0.cell? ⟨w.heap.size, 1, none⟩ = some _ := p2.cell 1
 rw [HC.out] at HK
 generalize w.heap.size + 1 + 1 = B4 at *
 generalize w.heap.size + 1 = B3 at *
 go_upto_region 2 with ((with_reducible refine HK.out.mono ?_); rintro e w2 ⟨rfl, hb2⟩)
 have q4 := p4.below hb2
 have e40 : w2.cell? ⟨B4, 0, none⟩ = some _ := q4.cell 0
 have e41 : w2.cell? ⟨B4, 1, none⟩ = some _ := q4.cell 1
 have f40 := q4.frozen 0
 have f41 := q4.frozen 1
 have HB2 := hidden (onto hb0 hb2)
 clear HK hb2 e20 e21 p2 p3 p4 hb0 hR0
 go_wp2_with fail
 have p5 : PB ((w2.setCell ⟨B4, 0, none⟩ (.slice none 0 0)).setCell ⟨B4, 1, none⟩ (.slice none 0 0)) B4 #[.slice none 0 0, .slice none 0 0] 27 := (q4.set 0 _).set 1 _
 exact bodyPost_ret (zep Tryd.results8 _ _ B4 27 _ _ rfl p5 Tryd.underlying27 rfl (by kernel_rfl)) rfl ⟨rfl, (HB2.out.setCell (p := ⟨B4, 0, none⟩) g4 _).setCell (p := ⟨B4, 1, none⟩) g4 _⟩
set_option maxRecDepth 20000 in
set_option maxHeartbeats 16000000 in
theorem zj6 (ao : Option Addr) (cap : Nat) (ad : Option Addr) (dcap : Nat) (os : List Od) (ds : List Ds) (x : Dd) (w : World) (h : Cp.CRw w (.slice ao os.length cap) (.slice ad ds.length dcap) os ds) (hn : os.length <= 1048576) (hm : ds.length <= 1048576) (hc : jm os ds = true) :
  Calls Tryd.prog 8 #[.agg #[.slice ao os.length cap, .slice ad ds.length dcap], aDd x] w (Left (if doC os ds x = 0 then yj os x else os) (if doC os ds x = 0 then qy os ds x else ds) (doC os ds x) w) := by
 have HH := hidden h
 clear h
 have hb0 : Below w.heap.size w (((w.alloc (.cells #[.slice ao os.length cap, .slice ad ds.length dcap] 27)).alloc (.cells #[.int .i64 x.k, .int .i64 x.o.id, .int .i64 x.o.p, .int .i64 x.o.d, .int .i64 x.o.n, .int .i64 x.o.f, .int .i64 x.o.e, .int .i64 x.o.c, .int .i64 x.o.s, .bool x.o.two, .int .i64 x.id, .int .i64 x.p, .int .i64 x.d, .int .i64 x.n, .int .i64 x.m, .int .i64 x.b, .int .i64 x.a] 31)).alloc (.cells #[.slice none 0 0, .slice none 0 0] 27)) := (((Below.refl _ _).alloc (Nat.le_refl _) _).alloc (by first | omega | (simp; done) | (simp; omega)) _).alloc (by first | omega | (simp; done) | (simp; omega)) _
 have p2 : PB (((w.alloc (.cells #[.slice ao os.length cap, .slice ad ds.length dcap] 27)).alloc (.cells #[.int .i64 x.k, .int .i64 x.o.id, .int .i64 x.o.p, .int .i64 x.o.d, .int .i64 x.o.n, .int .i64 x.o.f, .int .i64 x.o.e, .int .i64 x.o.c, .int .i64 x.o.s, .bool x.o.two, .int .i64 x.id, .int .i64 x.p, .int .i64 x.d, .int .i64 x.n, .int .i64 x.m, .int .i64 x.b, .int .i64 x.a] 31)).alloc (.cells #[.slice none 0 0, .slice none 0 0] 27)) w.heap.size #[.slice ao os.length cap, .slice ad ds.length dcap] 27 := ((PB.new w _ _).alloc _).alloc _
 have p3 : PB (((w.alloc (.cells #[.slice ao os.length cap, .slice ad ds.length dcap] 27)).alloc (.cells #[.int .i64 x.k, .int .i64 x.o.id, .int .i64 x.o.p, .int .i64 x.o.d, .int .i64 x.o.n, .int .i64 x.o.f, .int .i64 x.o.e, .int .i64 x.o.c, .int .i64 x.o.s, .bool x.o.two, .int .i64 x.id, .int .i64 x.p, .int .i64 x.d, .int .i64 x.n, .int .i64 x.m, .int .i64 x.b, .int .i64 x.a] 31)).alloc (.cells #[.slice none 0 0, .slice none 0 0] 27)) (w.heap.size + 1) #[.int .i64 x.k, .int .i64 x.o.id, .int .i64 x.o.p, .int .i64 x.o.d, .int .i64 x.o.n, .int .i64 x.o.f, .int .i64 x.o.e, .int .i64 x.o.c, .int .i64 x.o.s, .bool x.o.two, .int .i64 x.id, .int .i64 x.p, .int .i64 x.d, .int .i64 x.n, .int .i64 x.m, .int .i64 x.b, .int .i64 x.a] 31 := (PB.alloc (by have := PB.new (w.alloc (.cells #[.slice ao os.length cap, .slice ad ds.length dcap] 27)) #[.int .i64 x.k, .int .i64 x.o.id, .int .i64 x.o.p, .int .i64 x.o.d, .int .i64 x.o.n, .int .i64 x.o.f, .int .i64 x.o.e, .int .i64 x.o.c, .int .i64 x.o.s, .bool x.o.two, .int .i64 x.id, .int .i64 x.p, .int .i64 x.d, .int .i64 x.n, .int .i64 x.m, .int .i64 x.b, .int .i64 x.a] 31; simpa using this) _)
 have p4 : PB (((w.alloc (.cells #[.slice ao os.length cap, .slice ad ds.length dcap] 27)).alloc (.cells #[.int .i64 x.k, .int .i64 x.o.id, .int .i64 x.o.p, .int .i64 x.o.d, .int .i64 x.o.n, .int .i64 x.o.f, .int .i64 x.o.e, .int .i64 x.o.c, .int .i64 x.o.s, .bool x.o.two, .int .i64 x.id, .int .i64 x.p, .int .i64 x.d, .int .i64 x.n, .int .i64 x.m, .int .i64 x.b, .int .i64 x.a] 31)).alloc (.cells #[.slice none 0 0, .slice none 0 0] 27)) (w.heap.size + 1 + 1) #[.slice none 0 0, .slice none 0 0] 27 := by have := PB.new ((w.alloc (.cells #[.slice ao os.length cap, .slice ad ds.length dcap] 27)).alloc (.cells #[.int .i64 x.k, .int .i64 x.o.id, .int .i64 x.o.p, .int .i64 x.o.d, .int .i64 x.o.n, .int .i64 x.o.f, .int .i64 x.o.e, .int .i64 x.o.c, .int .i64 x.o.s, .bool x.o.two, .int .i64 x.id, .int .i64 x.p, .int .i64 x.d, .int .i64 x.n, .int .i64 x.m, .int .i64 x.b, .int .i64 x.a] 31)) #[.slice none 0 0, .slice none 0 0] 27; simpa using this
 have HC := hidden hc
 clear hc
 unfold aDd
 go_enter Tryd.func8, Tryd.ntmps8
 go_upto_region 1 with fail
 generalize (((w.alloc (.cells #[.slice ao os.length cap, .slice ad ds.length dcap] 27)).alloc (.cells #[.int .i64 x.k, .int .i64 x.o.id, .int .i64 x.o.p, .int .i64 x.o.d, .int .i64 x.o.n, .int .i64 x.o.f, .int .i64 x.o.e, .int .i64 x.o.c, .int .i64 x.o.s, .bool x.o.two, .int .i64 x.id, .int .i64 x.p, .int .i64 x.d, .int .i64 x.n, .int .i64 x.m, .int .i64 x.b, .int .i64 x.a] 31)).alloc (.cells #[.slice none 0 0, .slice none 0 0] 27)) = W0 at *
 have hR0 := HH.out.below hb0
 have g4 : w.heap.size <= w.heap.size + 1 + 1 := by omega
 have HK := hidden (zgf ao os.length cap ad ds.length dcap os ds W0 hR0.1 hR0.2 hn hm)
 have e20 : W0.cell? ⟨w.heap.size, 0, none⟩ = some _ := p2.cell 0
 have e21 : W0.cell? ⟨w.heap.size, 1, none⟩ = some _ := p2.cell 1
 rw [HC.out] at HK
 generalize w.heap.size + 1 + 1 = B4 at *
 generalize w.heap.size + 1 = B3 at *
 have HW := hidden (fun W hW => zem ao cap ad dcap os ds x W hW (zb0.1 HC.out).1.1 (zb0.1 HC.out).1.2 (fun i y hy => by
  have := (zb0.1 HC.out).2.1 i (List.getElem?_eq_some_iff.1 hy).1
  simp only [qj, Bool.and_eq_true, kw hy] at this
  exact this.1))
 generalize (if doC os ds x = 0 then yj os x else os) = L1 at *
 generalize (if doC os ds x = 0 then qy os ds x else ds) = L2 at *
 generalize doC os ds x = cc at *
 go_upto_region 3 with ((with_reducible refine HK.out.mono ?_); rintro e w2 ⟨rfl, hb2⟩)
 have q4 := p4.below hb2
 have q2 := p2.below hb2
 obtain ⟨e30, ⟨e31, e32, e33, e34, e35, e36, e37, e38, e39⟩, e3a, e3b, e3c, e3d, e3e, e3f, e3g⟩ := (p3.below hb2).deed
 have d20 : w2.cell? ⟨w.heap.size, 0, none⟩ = some _ := q2.cell 0
 have d21 : w2.cell? ⟨w.heap.size, 1, none⟩ = some _ := q2.cell 1
 have HWW := hidden (HW.out w2 (hR0.below hb2))
 unfold aDd Left at HWW
 have HB2 := hidden (onto hb0 hb2)
 clear HK hb2 e20 e21 p2 p3 p4 hb0 hR0 q2 HW HH
 go_wp2_with ((with_reducible refine HWW.out.mono ?_); rintro e w3 ⟨v1, v2, rfl, hN3, hb3⟩; obtain ⟨f1, f2, f3, f4, rfl, rfl⟩ := hN3.form; have r4 := q4.below hb3; have e40 := r4.cell 0; have e41 := r4.cell 1; have f40 := r4.frozen 0; have f41 := r4.frozen 1)
 have hs := HB2.out.size
 have hN4 : Cp.zo w3 w.heap.size (.slice f1 L1.length f2) (.slice f3 L2.length f4) L1 L2 := hN3.zbe hs
 have p5 : PB ((w3.setCell ⟨B4, 0, none⟩ (.slice f1 L1.length f2)).setCell ⟨B4, 1, none⟩ (.slice f3 L2.length f4)) B4 #[.slice f1 L1.length f2, .slice f3 L2.length f4] 27 := (r4.set 0 _).set 1 _
 have hb4 := onto HB2.out hb3
 refine bodyPost_ret (zep Tryd.results8 _ _ B4 27 _ _ rfl p5 Tryd.underlying27 rfl (by kernel_rfl)) rfl ⟨_, _, rfl, ⟨?_, ?_⟩, (hb4.setCell (p := ⟨B4, 0, none⟩) g4 _).setCell (p := ⟨B4, 1, none⟩) g4 _⟩
 ·exact Cp.jk (Cp.jk hN4.1 (ja hN4.1 r4 (by decide)) _ _) (ja hN4.1 r4 (by decide)) _ _
 ·exact Cp.jk (Cp.jk hN4.2 (ja hN4.2 r4 (by decide)) _ _) (ja hN4.2 r4 (by decide)) _ _
end Go.Proofs.YtjlpfpigggdemaaDoor
namespace Go.Proofs.YtjlpfpigggdemaaDoor
open Go.RowKit Va Uo
set_option linter.all false
def odC (os : List Od) (ds : List Ds) (x : Dd) : Int := if jm os ds = true then doC os ds x else 1
def yh (os : List Od) (ds : List Ds) (x : Dd) : List Od := if jm os ds = true then (if doC os ds x = 0 then yj os x else os) else []
def yg (os : List Od) (ds : List Ds) (x : Dd) : List Ds := if jm os ds = true then (if doC os ds x = 0 then qy os ds x else ds) else []
theorem za9 {p : Prop} [Decidable p] {a b : Int} (ha : ¬ a = 1) (hb : ¬ b = 1) : ¬ (if p then a else b) = 1 := by
 by_cases h : p
 ·rw [if_pos h]; exact ha
 ·rw [if_neg h]; exact hb
theorem doC_ne {os : List Od} {ds : List Ds} {x : Dd} : ¬ doC os ds x = 1 := by
 have hg : ∀ o, ¬ zaj os ds x o = 1 := by
  intro o
  unfold zaj
  exact za9 (by decide) (za9 (by decide) (za9 (by decide) (za9 (by decide) (za9 (by decide) (za9 (by decide) (za9 (by decide) (by decide)))))))
 unfold doC
 exact za9 (by decide) (za9 (za9 (by decide) (za9 (by decide) (by decide))) (za9 (by decide) (za9 (by decide) (za9 (hg _) (by decide)))))
set_option maxRecDepth 20000 in
set_option maxHeartbeats 16000000 in
theorem zi9 (ao : Option Addr) (n cap : Nat) (ad : Option Addr) (m dcap : Nat) (x : Dd) (L1 : List Od) (L2 : List Ds) (w : World)
  (hB : ∀ W, Below w.heap.size w W -> Calls Tryd.prog 19 #[.agg #[.slice ao n cap, .slice ad m dcap], aDd x] W fun e w' => ∃ v1 v2, e = .returned (.agg #[v1, v2]) /\ Cp.zo w' W.heap.size v1 v2 L1 L2 /\ Below W.heap.size W w') :
  Calls Tryd.prog 7 #[.agg #[.slice ao n cap, .slice ad m dcap], aDd x] w (zbr L1 L2 0 w) := by
 have hmf : ∀ (fn : Fn) (first cap : Array Value) (w : World), (Instr.makeFunc fn first cap).run Tryd.prog w = .ok (.func fn first cap) w := fun _ _ _ _ => rfl
 have hb0 : Below w.heap.size w ((((w.alloc (.cells #[.slice ao n cap, .slice ad m dcap] 27)).alloc (.cells #[.int .i64 x.k, .int .i64 x.o.id, .int .i64 x.o.p, .int .i64 x.o.d, .int .i64 x.o.n, .int .i64 x.o.f, .int .i64 x.o.e, .int .i64 x.o.c, .int .i64 x.o.s, .bool x.o.two, .int .i64 x.id, .int .i64 x.p, .int .i64 x.d, .int .i64 x.n, .int .i64 x.m, .int .i64 x.b, .int .i64 x.a] 31)).alloc (.cells #[.slice none 0 0, .slice none 0 0] 27)).alloc (.cells #[.int .i64 0] 2)) := ((((Below.refl _ _).alloc (Nat.le_refl _) _).alloc (by simp) _).alloc (by simp; omega) _).alloc (by simp; omega) _
 have P2 := (((PB.new w #[.slice ao n cap, .slice ad m dcap] 27).alloc (.cells #[.int .i64 x.k, .int .i64 x.o.id, .int .i64 x.o.p, .int .i64 x.o.d, .int .i64 x.o.n, .int .i64 x.o.f, .int .i64 x.o.e, .int .i64 x.o.c, .int .i64 x.o.s, .bool x.o.two, .int .i64 x.id, .int .i64 x.p, .int .i64 x.d, .int .i64 x.n, .int .i64 x.m, .int .i64 x.b, .int .i64 x.a] 31)).alloc (.cells #[.slice none 0 0, .slice none 0 0] 27)).alloc (.cells #[.int .i64 0] 2)
 have P3 := ((PB.new (w.alloc (.cells #[.slice ao n cap, .slice ad m dcap] 27)) #[.int .i64 x.k, .int .i64 x.o.id, .int .i64 x.o.p, .int .i64 x.o.d, .int .i64 x.o.n, .int .i64 x.o.f, .int .i64 x.o.e, .int .i64 x.o.c, .int .i64 x.o.s, .bool x.o.two, .int .i64 x.id, .int .i64 x.p, .int .i64 x.d, .int .i64 x.n, .int .i64 x.m, .int .i64 x.b, .int .i64 x.a] 31).alloc (.cells #[.slice none 0 0, .slice none 0 0] 27)).alloc (.cells #[.int .i64 0] 2)
 have P4 := (PB.new ((w.alloc (.cells #[.slice ao n cap, .slice ad m dcap] 27)).alloc (.cells #[.int .i64 x.k, .int .i64 x.o.id, .int .i64 x.o.p, .int .i64 x.o.d, .int .i64 x.o.n, .int .i64 x.o.f, .int .i64 x.o.e, .int .i64 x.o.c, .int .i64 x.o.s, .bool x.o.two, .int .i64 x.id, .int .i64 x.p, .int .i64 x.d, .int .i64 x.n, .int .i64 x.m, .int .i64 x.b, .int .i64 x.a] 31)) #[.slice none 0 0, .slice none 0 0] 27).alloc (.cells #[.int .i64 0] 2)
 have P5 := PB.new (((w.alloc (.cells #[.slice ao n cap, .slice ad m dcap] 27)).alloc (.cells #[.int .i64 x.k, .int .i64 x.o.id, .int .i64 x.o.p, .int .i64 x.o.d, .int .i64 x.o.n, .int .i64 x.o.f, .int .i64 x.o.e, .int .i64 x.o.c, .int .i64 x.o.s, .bool x.o.two, .int .i64 x.id, .int .i64 x.p, .int .i64 x.d, .int .i64 x.n, .int .i64 x.m, .int .i64 x.b, .int .i64 x.a] 31)).alloc (.cells #[.slice none 0 0, .slice none 0 0] 27)) #[.int .i64 0] 2
 simp only [World.size_alloc] at P3 P4 P5
 have HB := hidden hB
 clear hB
 unfold aDd at *
 go_enter_defers Tryd.func7, Tryd.ntmps7
 go_upto_region 1 with fail
 generalize (((w.alloc (.cells #[.slice ao n cap, .slice ad m dcap] 27)).alloc (.cells #[.int .i64 x.k, .int .i64 x.o.id, .int .i64 x.o.p, .int .i64 x.o.d, .int .i64 x.o.n, .int .i64 x.o.f, .int .i64 x.o.e, .int .i64 x.o.c, .int .i64 x.o.s, .bool x.o.two, .int .i64 x.id, .int .i64 x.p, .int .i64 x.d, .int .i64 x.n, .int .i64 x.m, .int .i64 x.b, .int .i64 x.a] 31)).alloc (.cells #[.slice none 0 0, .slice none 0 0] 27)).alloc (.cells #[.int .i64 0] 2) = w1 at *
 obtain ⟨e0, e1⟩ := P2.two
 have hB1 := HB.out w1 hb0
 go_wp2_with (first | (refine wpList_load_row rfl 31 (.tmp 3) rfl (w.heap.size + 1) rfl 31 #[.int .i64 x.k, .int .i64 x.o.id, .int .i64 x.o.p, .int .i64 x.o.d, .int .i64 x.o.n, .int .i64 x.o.f, .int .i64 x.o.e, .int .i64 x.o.c, .int .i64 x.o.s, .bool x.o.two, .int .i64 x.id, .int .i64 x.p, .int .i64 x.d, .int .i64 x.n, .int .i64 x.m, .int .i64 x.b, .int .i64 x.a] (0, 0) _ P3 Tryd.underlying31 rfl (by kernel_rfl) ?_) | fail)
 refine hB1.mono ?_
 rintro e w2 ⟨v1, v2, rfl, hN2, hb2⟩
 obtain ⟨a1, c1, a2, c2, rfl, rfl⟩ := hN2.form
 have b2 := hidden (hb0.trans (hb2.mono hb0.size))
 have P42 := P4.below hb2
 have P52 := P5.below hb2
 have HN := hidden (zat hN2 hb0.size)
 obtain ⟨q0, q1⟩ := P42.two
 have f0 := P42.frozen 0
 have f1 := P42.frozen 1
 have s0 : w2.cell? ⟨w.heap.size + 1 + 1 + 1, 0, none⟩ = some _ := P52.cell 0
 have t0 := P52.frozen 0
 have P43 : PB (w2.setCell ⟨w.heap.size + 1 + 1, 0, none⟩ (.slice a1 L1.length c1)) (w.heap.size + 1 + 1) #[.slice a1 L1.length c1, .slice none 0 0] 27 := P42.put 0 _ (by simp)
 have P44 : PB ((w2.setCell ⟨w.heap.size + 1 + 1, 0, none⟩ (.slice a1 L1.length c1)).setCell ⟨w.heap.size + 1 + 1, 1, none⟩ (.slice a2 L2.length c2)) (w.heap.size + 1 + 1) #[.slice a1 L1.length c1, .slice a2 L2.length c2] 27 := P43.put 1 _ (by simp)
 have P54 := (P52.far (b := w.heap.size + 1 + 1) (by omega) 0 (.slice a1 L1.length c1)).far (b := w.heap.size + 1 + 1) (by omega) 1 (.slice a2 L2.length c2)
 have N4 := zas (zas HN.out P42 (by decide) (by decide) 0 (.slice a1 L1.length c1)) P43 (by decide) (by decide) 1 (.slice a2 L2.length c2)
 have HP4 := hidden (P44.far (b := w.heap.size + 1 + 1 + 1) (by omega) 0 (.int .i64 0))
 have HP5 : Hid (PB (((w2.setCell ⟨w.heap.size + 1 + 1, 0, none⟩ (.slice a1 L1.length c1)).setCell ⟨w.heap.size + 1 + 1, 1, none⟩ (.slice a2 L2.length c2)).setCell ⟨w.heap.size + 1 + 1 + 1, 0, none⟩ (.int .i64 0)) (w.heap.size + 1 + 1 + 1) #[.int .i64 0] 2) := P54.put 0 (.int .i64 0) (by simp)
 have HN4 := hidden (zas N4 P54 (by decide) (by decide) 0 (.int .i64 0))
 have HB4 := hidden (((b2.out.setCell (p := ⟨w.heap.size + 1 + 1, 0, none⟩) (by show w.heap.size <= w.heap.size + 1 + 1; omega) (.slice a1 L1.length c1)).setCell (p := ⟨w.heap.size + 1 + 1, 1, none⟩) (by show w.heap.size <= w.heap.size + 1 + 1; omega) (.slice a2 L2.length c2)).setCell (p := ⟨w.heap.size + 1 + 1 + 1, 0, none⟩) (by show w.heap.size <= w.heap.size + 1 + 1 + 1; omega) (.int .i64 0))
 clear P42 P43 P44 P54 N4 P52 hN2 P2 P3 P4 P5 hb0 hb2 hB1 HB e0 e1
 go_wp2_with fail
 refine leaves_cons (f := 16) (args := #[.pointer (some ⟨w.heap.size, 0, none⟩), .pointer (some ⟨w.heap.size + 1 + 1, 0, none⟩), .pointer (some ⟨w.heap.size + 1 + 1 + 1, 0, none⟩)]) (by simp) (by simp [go_sem]) ?_
 refine (zj8 _ _ _ _).mono ?_
 rintro e u' w'' ⟨rfl, rfl, rfl⟩
 simp only [settle]
 exact ⟨_, zgz Tryd.results7 _ _ (w.heap.size + 1 + 1) (w.heap.size + 1 + 1 + 1) 27 2 _ 0 _ .i64 rfl HP4.out Tryd.underlying27 rfl (by kernel_rfl) rfl HP5.out Tryd.underlying2, _, _, rfl, HN4.out, HB4.out⟩
def zcy (w : World) : Prop := w.cell? ⟨0, 0, none⟩ = some (.iface 108 (.agg #[.pointer (some ⟨1, 65, none⟩)])) /\ 0 < w.heap.size
theorem zcy.below {w w' : World} (h : zcy w) (hb : Below w.heap.size w w') : zcy w' := ⟨(hb.cell (p := ⟨0, 0, none⟩) h.2).trans h.1, Nat.lt_of_lt_of_le h.2 hb.size⟩
set_option maxRecDepth 20000 in
set_option maxHeartbeats 16000000 in
theorem zh9 (ao : Option Addr) (n cap : Nat) (ad : Option Addr) (m dcap : Nat) (os : List Od) (ds : List Ds) (x : Dd) (w : World) (hR : Cp.CRw w (.slice ao n cap) (.slice ad m dcap) os ds) (hn : os.length <= 1048576) (hm : ds.length <= 1048576) (hl : zcy w) :
  Calls Tryd.prog 7 #[.agg #[.slice ao n cap, .slice ad m dcap], aDd x] w (zbr (yh os ds x) (yg os ds x) (odC os ds x) w) := by
 have hCO : ∀ c, ∀ W, Below w.heap.size w W -> Calls Tryd.prog 18 #[ku x.k c] W fun e w' => e = .returned (.int .i64 c) /\ Below W.heap.size W w' := fun c W hW => zjx x.k c W (hl.below hW).1 (hl.below hW).2
 cases hc : jm os ds with
 | false =>
  have e1 : odC os ds x = 1 := by simp [odC, hc]
  have e2 : yh os ds x = [] := by simp [yh, hc]
  have e3 : yg os ds x = [] := by simp [yg, hc]
  rw [e1, e2, e3]
  exact zgi ao n cap ad m dcap x 1 [] [] w (fun W hW => zkp ao n cap ad m dcap os ds x W (hR.below hW) hn hm hc) (hCO 1) (fun W _ => zj9 ao n cap ad m dcap 1 W rfl)
 | true =>
  by_cases h0 : doC os ds x = 0
  ·have e1 : odC os ds x = 0 := by simp [odC, hc, h0]
   have e2 : yh os ds x = yj os x := by simp [yh, hc, h0]
   have e3 : yg os ds x = qy os ds x := by simp [yg, hc, h0]
   rw [e1, e2, e3]
   refine zi9 ao n cap ad m dcap x (yj os x) (qy os ds x) w (fun W hW => (zgp ao n cap ad m dcap os ds x W (hR.below hW) hc).mono fun e w' h => ?_)
   rcases h with ⟨h1, _⟩ | ⟨_, h2⟩
   ·exact absurd h0 h1
   ·exact h2
  ·have e1 : odC os ds x = doC os ds x := by simp [odC, hc]
   have e2 : yh os ds x = os := by simp [yh, hc, h0]
   have e3 : yg os ds x = ds := by simp [yg, hc, h0]
   rw [e1, e2, e3]
   refine zgi ao n cap ad m dcap x (doC os ds x) os ds w (fun W hW => (zgp ao n cap ad m dcap os ds x W (hR.below hW) hc).mono fun e w' h => ?_) (hCO _) (fun W hW => ziq ao n cap ad m dcap (doC os ds x) W os ds (hR.below hW) hn hm doC_ne)
   rcases h with ⟨_, h1, h2⟩ | ⟨h1, _⟩
   ·exact ⟨h1, h2⟩
   ·exact absurd h1 h0
theorem zju (ao : Option Addr) (cap : Nat) (ad : Option Addr) (dcap : Nat) (os : List Od) (ds : List Ds) (x : Dd) (w : World) (h : Cp.CRw w (.slice ao os.length cap) (.slice ad ds.length dcap) os ds) (hn : os.length <= 1048576) (hm : ds.length <= 1048576) :
  Calls Tryd.prog 8 #[.agg #[.slice ao os.length cap, .slice ad ds.length dcap], aDd x] w (zbr (yh os ds x) (yg os ds x) (odC os ds x) w) := by
 cases hc : jm os ds with
 | false =>
  have e1 : odC os ds x = 1 := by simp [odC, hc]
  have e2 : yh os ds x = [] := by simp [yh, hc]
  have e3 : yg os ds x = [] := by simp [yg, hc]
  rw [e1, e2, e3]
  exact (zir ao cap ad dcap os ds x w h hn hm hc).mono fun e w' ⟨h1, h2⟩ => ⟨_, _, h1, ze4 _ _, h2⟩
 | true =>
  have e1 : odC os ds x = doC os ds x := by simp [odC, hc]
  have e2 : yh os ds x = if doC os ds x = 0 then yj os x else os := by simp [yh, hc]
  have e3 : yg os ds x = if doC os ds x = 0 then qy os ds x else ds := by simp [yg, hc]
  rw [e1, e2, e3]
  exact zj6 ao cap ad dcap os ds x w h hn hm hc
end Go.Proofs.YtjlpfpigggdemaaDoor
namespace Go.Proofs.YtjlpfpigggdemaaDoor
open Go.RowKit Va Uo
set_option linter.all false
theorem yf.far {α : Type} {s : Nat} {cs : α -> Nat -> Value} {w : World} {base B : Nat} {v : Value} {l : List α} (h : yf s cs w base v l) (hB : B < base) (j : Nat) (u : Value) : yf s cs (w.setCell ⟨B, j, none⟩ u) base v l := by
 obtain ⟨ao, cap, rfl, hc, hh⟩ := h
 refine ⟨ao, cap, rfl, hc, hh.imp_right ?_⟩
 rintro ⟨G, rfl, hG, h1, h2, h3⟩
 have e : ∀ o, (w.setCell ⟨B, j, none⟩ u).cell? ⟨G, o, none⟩ = w.cell? ⟨G, o, none⟩ := fun o => World.cell?_setCell_far _ _ _ _ (by show B ≠ G; omega)
 exact ⟨G, rfl, hG, by simpa [World.setCell] using h1, fun i hi => ⟨by rw [e]; exact (h2 i hi).1, by rw [World.frozen?_setCell]; exact (h2 i hi).2⟩, fun i x hi hx k hk => by rw [e]; exact h3 i x hi hx k hk⟩
theorem zki {fn : Func} {p : Tmp} {ty : TypeId} (h : fn.results = #[.cell p ty]) (tmps : Array Value) (P : Program) (w : World) :
  (results fn tmps).run P w = ((asAddr (tmps.getD p undef)).run P w).andThen fun a w₁ => (loadVar ty a).run P w₁ := by
 simp only [results, h]
 simp [Sem.run_bind, Result.andThen]
theorem zii {P : Program} {fn : Func} {p : Tmp} {ty : TypeId} (h : fn.results = #[.cell p ty]) (tmps : Array Value) (w : World) (g : Nat) (t : TypeId) (cs : Array Value) (d : TypeDesc)
  (hp : tmps.getD p undef = .pointer (some ⟨g, 0, none⟩)) (hg : PB w g cs t) (hu : P.underlying ty = some d) (hd : (match d with | .struct _ | .array _ _ => true | _ => false) = true) (hi : (P.info? ty).map (·.size) = some cs.size) :
  (results fn tmps).run P w = .ok (.agg cs) w := by
 have hl := run_loadVar_row (P := P) w g t ty cs _ d hg hu hd hi
 rw [zki h, hp]
 simp [asAddr, hl, Result.andThen]
end Go.Proofs.YtjlpfpigggdemaaDoor
namespace Go.Proofs.YtjlpfpigggdemaaDoor
open Go.RowKit Va Uo
set_option linter.all false
def cmod (x : Int) (k : Nat) : Value := match k with | 0 => .int .i64 (x + 0) | 1 => .int .i64 (x + 1) | 2 => .int .i64 (x + 2) | 3 => .int .i64 (x + 3) | 4 => .int .i64 (x + 4) | 5 => .int .i64 (x + 5) | 6 => .int .i64 (x + 6) | 7 => .int .i64 (x + 7) | _ => .bool ((x + 8) % 3 == 0)
end Go.Proofs.YtjlpfpigggdemaaDoor
namespace Go.Proofs.YtjlpfpigggdemaaDoor
open Go.RowKit Va Uo
set_option linter.all false
structure Mkd (w w' : World) (v2 v3 : Value) (os : List Od) (ds : List Ds) (b2 b3 : Nat) (k0 : Int) : Prop where
 ords : yf 9 cmod w' b2 v2 (marks 9 k0 os.length)
 doss : yf 5 cmds w' b3 v3 (marks 5 (k0 + 9 * (os.length : Int)) ds.length)
 below : ∀ b0 w0, Below b0 w0 w -> b0 <= w.heap.size -> b0 <= b2 -> b0 <= b3 -> Below b0 w0 w'
 young : ∀ (γ : Type) (s : Nat) (cs : γ -> Nat -> Value) (b : Nat) (v : Value) (l : List γ), yf s cs w b v l -> (∃ wx, yf 9 jb wx b2 v2 os /\ wx.heap.size <= b) -> (∃ wx, yf 5 jy wx b3 v3 ds /\ wx.heap.size <= b) -> yf s cs w' b v l
 box : ∀ (B : Nat) (vs : Array Value) (t : TypeId), PB w B vs t -> (∃ wx, yf 9 jb wx b2 v2 os /\ wx.heap.size <= B) -> (∃ wx, yf 5 jy wx b3 v3 ds /\ wx.heap.size <= B) -> PB w' B vs t
end Go.Proofs.YtjlpfpigggdemaaDoor
namespace Go.Proofs.YtjlpfpigggdemaaDoor
open Go.RowKit Va Uo Go.WideShapes
set_option linter.all false
end Go.Proofs.YtjlpfpigggdemaaDoor
namespace Go.Proofs.YtjlpfpigggdemaaDoor
open Go.RowKit Va Uo Go.WideShapes
set_option linter.all false
theorem PB.d0 {W : World} {B : Nat} {t : TypeId} {v0 v1 v2 v3 v4 v5 v6 v7 v8 v9 v10 v11 v12 v13 v14 v15 v16 : Value} (h : PB W B #[v0, v1, v2, v3, v4, v5, v6, v7, v8, v9, v10, v11, v12, v13, v14, v15, v16] t) (x : Value) : PB (W.setCell ⟨B, 0, none⟩ x) B #[x, v1, v2, v3, v4, v5, v6, v7, v8, v9, v10, v11, v12, v13, v14, v15, v16] t := h.set 0 x
theorem PB.d1 {W : World} {B : Nat} {t : TypeId} {v0 v1 v2 v3 v4 v5 v6 v7 v8 v9 v10 v11 v12 v13 v14 v15 v16 : Value} (h : PB W B #[v0, v1, v2, v3, v4, v5, v6, v7, v8, v9, v10, v11, v12, v13, v14, v15, v16] t) (x : Value) : PB (W.setCell ⟨B, 1, none⟩ x) B #[v0, x, v2, v3, v4, v5, v6, v7, v8, v9, v10, v11, v12, v13, v14, v15, v16] t := h.set 1 x
theorem PB.d2 {W : World} {B : Nat} {t : TypeId} {v0 v1 v2 v3 v4 v5 v6 v7 v8 v9 v10 v11 v12 v13 v14 v15 v16 : Value} (h : PB W B #[v0, v1, v2, v3, v4, v5, v6, v7, v8, v9, v10, v11, v12, v13, v14, v15, v16] t) (x : Value) : PB (W.setCell ⟨B, 2, none⟩ x) B #[v0, v1, x, v3, v4, v5, v6, v7, v8, v9, v10, v11, v12, v13, v14, v15, v16] t := h.set 2 x
theorem PB.d3 {W : World} {B : Nat} {t : TypeId} {v0 v1 v2 v3 v4 v5 v6 v7 v8 v9 v10 v11 v12 v13 v14 v15 v16 : Value} (h : PB W B #[v0, v1, v2, v3, v4, v5, v6, v7, v8, v9, v10, v11, v12, v13, v14, v15, v16] t) (x : Value) : PB (W.setCell ⟨B, 3, none⟩ x) B #[v0, v1, v2, x, v4, v5, v6, v7, v8, v9, v10, v11, v12, v13, v14, v15, v16] t := h.set 3 x
theorem PB.d4 {W : World} {B : Nat} {t : TypeId} {v0 v1 v2 v3 v4 v5 v6 v7 v8 v9 v10 v11 v12 v13 v14 v15 v16 : Value} (h : PB W B #[v0, v1, v2, v3, v4, v5, v6, v7, v8, v9, v10, v11, v12, v13, v14, v15, v16] t) (x : Value) : PB (W.setCell ⟨B, 4, none⟩ x) B #[v0, v1, v2, v3, x, v5, v6, v7, v8, v9, v10, v11, v12, v13, v14, v15, v16] t := h.set 4 x
theorem PB.d5 {W : World} {B : Nat} {t : TypeId} {v0 v1 v2 v3 v4 v5 v6 v7 v8 v9 v10 v11 v12 v13 v14 v15 v16 : Value} (h : PB W B #[v0, v1, v2, v3, v4, v5, v6, v7, v8, v9, v10, v11, v12, v13, v14, v15, v16] t) (x : Value) : PB (W.setCell ⟨B, 5, none⟩ x) B #[v0, v1, v2, v3, v4, x, v6, v7, v8, v9, v10, v11, v12, v13, v14, v15, v16] t := h.set 5 x
theorem PB.d6 {W : World} {B : Nat} {t : TypeId} {v0 v1 v2 v3 v4 v5 v6 v7 v8 v9 v10 v11 v12 v13 v14 v15 v16 : Value} (h : PB W B #[v0, v1, v2, v3, v4, v5, v6, v7, v8, v9, v10, v11, v12, v13, v14, v15, v16] t) (x : Value) : PB (W.setCell ⟨B, 6, none⟩ x) B #[v0, v1, v2, v3, v4, v5, x, v7, v8, v9, v10, v11, v12, v13, v14, v15, v16] t := h.set 6 x
theorem PB.d7 {W : World} {B : Nat} {t : TypeId} {v0 v1 v2 v3 v4 v5 v6 v7 v8 v9 v10 v11 v12 v13 v14 v15 v16 : Value} (h : PB W B #[v0, v1, v2, v3, v4, v5, v6, v7, v8, v9, v10, v11, v12, v13, v14, v15, v16] t) (x : Value) : PB (W.setCell ⟨B, 7, none⟩ x) B #[v0, v1, v2, v3, v4, v5, v6, x, v8, v9, v10, v11, v12, v13, v14, v15, v16] t := h.set 7 x
theorem PB.d8 {W : World} {B : Nat} {t : TypeId} {v0 v1 v2 v3 v4 v5 v6 v7 v8 v9 v10 v11 v12 v13 v14 v15 v16 : Value} (h : PB W B #[v0, v1, v2, v3, v4, v5, v6, v7, v8, v9, v10, v11, v12, v13, v14, v15, v16] t) (x : Value) : PB (W.setCell ⟨B, 8, none⟩ x) B #[v0, v1, v2, v3, v4, v5, v6, v7, x, v9, v10, v11, v12, v13, v14, v15, v16] t := h.set 8 x
theorem PB.d9 {W : World} {B : Nat} {t : TypeId} {v0 v1 v2 v3 v4 v5 v6 v7 v8 v9 v10 v11 v12 v13 v14 v15 v16 : Value} (h : PB W B #[v0, v1, v2, v3, v4, v5, v6, v7, v8, v9, v10, v11, v12, v13, v14, v15, v16] t) (x : Value) : PB (W.setCell ⟨B, 9, none⟩ x) B #[v0, v1, v2, v3, v4, v5, v6, v7, v8, x, v10, v11, v12, v13, v14, v15, v16] t := h.set 9 x
end Go.Proofs.YtjlpfpigggdemaaDoor
