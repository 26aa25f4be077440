/-
 Merged: U55 Ue Uqm U17 Uf U56 U60.
-/
import Derived.Test.YtjlpfpigggdemaaGreatDoorMi27
import Derived.Test.YtjlpfpigggdemaaGreatDoorMi33
import Derived.Test.YtjlpfpigggdemaaGreatDoorMi6
import Derived.Test.YtjlpfpigggdemaaGreatDoorMi2
import Derived.Laws.ResultCell
import Derived.Deep.RegionWith
import Derived.WideShapes
import Derived.ProofKit
import Derived.OpenShut
import Derived.ShutString
import Derived.ChangeOld
import Derived.Below
import Derived.Great.BuildSlice
import Derived.Test.YtjlpfpigggdemaaGreatDoorMi1
namespace Go.Proofs.YtjlpfpigggdemaaGreatDoor
set_option maxRecDepth 8000
set_option maxHeartbeats 4000000
open Go.RowKit Va Uo
set_option linter.all false
def odC (os : List Od) (ds : List Ds) (x : Dd) : Int := if ji os ds = true then doC os ds x else 1
def zbb (os : List Od) (ds : List Ds) (x : Dd) : List Od := if ji os ds = true then (if doC os ds x = 0 then ve os x else os) else []
def zbg (os : List Od) (ds : List Ds) (x : Dd) : List Ds := if ji os ds = true then (if doC os ds x = 0 then qo os ds x else ds) else []
theorem zbh {p : Prop} [Decidable p] {a b : Int} (ha : ¬ a = 1) (hb : ¬ b = 1) : ¬ (if p then a else b) = 1 := by
 by_cases h : p
 ·rw [if_pos h]; exact ha
 ·rw [if_neg h]; exact hb
theorem doC_ne {os : List Od} {ds : List Ds} {x : Dd} : ¬ doC os ds x = 1 := by
 have hg : ∀ o, ¬ zar os ds x o = 1 := by
  intro o
  unfold zar
  exact zbh (by decide) (zbh (by decide) (zbh (by decide) (zbh (by decide) (zbh (by decide) (zbh (by decide) (zbh (by decide) (by decide)))))))
 unfold doC
 exact zbh (by decide) (zbh (zbh (by decide) (zbh (by decide) (by decide))) (zbh (by decide) (zbh (by decide) (zbh (hg _) (by decide)))))
set_option maxRecDepth 20000 in
set_option maxHeartbeats 16000000 in
theorem zjb (ao : Option Addr) (n cap : Nat) (ad : Option Addr) (m dcap : Nat) (x : Dd) (L1 : List Od) (L2 : List Ds) (w : World)
  (hB : ∀ W, Below w.heap.size w W -> Calls Tryz.prog 28 #[.agg #[.slice ao n cap, .slice ad m dcap], aDd x] W fun e w' => ∃ v1 v2, e = .returned (.agg #[v1, v2]) /\ Cp.zo w' W.heap.size v1 v2 L1 L2 /\ Below W.heap.size W w') :
  Calls Tryz.prog 8 #[.agg #[.slice ao n cap, .slice ad m dcap], aDd x] w (zch L1 L2 0 w) := by
 have hmf : ∀ (fn : Fn) (first cap : Array Value) (w : World), (Instr.makeFunc fn first cap).run Tryz.prog w = .ok (.func fn first cap) w := fun _ _ _ _ => rfl
 have hb0 : Below w.heap.size w ((((w.alloc (.cells #[.slice ao n cap, .slice ad m dcap] 27)).alloc (.cells #[.int .i64 x.k, .int .i64 x.o.id, .int .i64 x.o.p, .int .i64 x.o.d, .int .i64 x.o.n, .int .i64 x.o.f, .int .i64 x.o.e, .int .i64 x.o.c, .int .i64 x.o.s, .bool x.o.two, .int .i64 x.id, .int .i64 x.p, .int .i64 x.d, .int .i64 x.n, .int .i64 x.m, .int .i64 x.b, .int .i64 x.a] 40)).alloc (.cells #[.slice none 0 0, .slice none 0 0] 27)).alloc (.cells #[.int .i64 0] 2)) := ((((Below.refl _ _).alloc (Nat.le_refl _) _).alloc (by simp) _).alloc (by simp; omega) _).alloc (by simp; omega) _
 have P2 := (((PB.new w #[.slice ao n cap, .slice ad m dcap] 27).alloc (.cells #[.int .i64 x.k, .int .i64 x.o.id, .int .i64 x.o.p, .int .i64 x.o.d, .int .i64 x.o.n, .int .i64 x.o.f, .int .i64 x.o.e, .int .i64 x.o.c, .int .i64 x.o.s, .bool x.o.two, .int .i64 x.id, .int .i64 x.p, .int .i64 x.d, .int .i64 x.n, .int .i64 x.m, .int .i64 x.b, .int .i64 x.a] 40)).alloc (.cells #[.slice none 0 0, .slice none 0 0] 27)).alloc (.cells #[.int .i64 0] 2)
 have P3 := ((PB.new (w.alloc (.cells #[.slice ao n cap, .slice ad m dcap] 27)) #[.int .i64 x.k, .int .i64 x.o.id, .int .i64 x.o.p, .int .i64 x.o.d, .int .i64 x.o.n, .int .i64 x.o.f, .int .i64 x.o.e, .int .i64 x.o.c, .int .i64 x.o.s, .bool x.o.two, .int .i64 x.id, .int .i64 x.p, .int .i64 x.d, .int .i64 x.n, .int .i64 x.m, .int .i64 x.b, .int .i64 x.a] 40).alloc (.cells #[.slice none 0 0, .slice none 0 0] 27)).alloc (.cells #[.int .i64 0] 2)
 have P4 := (PB.new ((w.alloc (.cells #[.slice ao n cap, .slice ad m dcap] 27)).alloc (.cells #[.int .i64 x.k, .int .i64 x.o.id, .int .i64 x.o.p, .int .i64 x.o.d, .int .i64 x.o.n, .int .i64 x.o.f, .int .i64 x.o.e, .int .i64 x.o.c, .int .i64 x.o.s, .bool x.o.two, .int .i64 x.id, .int .i64 x.p, .int .i64 x.d, .int .i64 x.n, .int .i64 x.m, .int .i64 x.b, .int .i64 x.a] 40)) #[.slice none 0 0, .slice none 0 0] 27).alloc (.cells #[.int .i64 0] 2)
 have P5 := PB.new (((w.alloc (.cells #[.slice ao n cap, .slice ad m dcap] 27)).alloc (.cells #[.int .i64 x.k, .int .i64 x.o.id, .int .i64 x.o.p, .int .i64 x.o.d, .int .i64 x.o.n, .int .i64 x.o.f, .int .i64 x.o.e, .int .i64 x.o.c, .int .i64 x.o.s, .bool x.o.two, .int .i64 x.id, .int .i64 x.p, .int .i64 x.d, .int .i64 x.n, .int .i64 x.m, .int .i64 x.b, .int .i64 x.a] 40)).alloc (.cells #[.slice none 0 0, .slice none 0 0] 27)) #[.int .i64 0] 2
 simp only [World.size_alloc] at P3 P4 P5
 have HB := hidden hB
 clear hB
 unfold aDd at *
 go_enter_defers Tryz.func8, Tryz.ntmps8
 go_upto_region 1 with fail
 generalize (((w.alloc (.cells #[.slice ao n cap, .slice ad m dcap] 27)).alloc (.cells #[.int .i64 x.k, .int .i64 x.o.id, .int .i64 x.o.p, .int .i64 x.o.d, .int .i64 x.o.n, .int .i64 x.o.f, .int .i64 x.o.e, .int .i64 x.o.c, .int .i64 x.o.s, .bool x.o.two, .int .i64 x.id, .int .i64 x.p, .int .i64 x.d, .int .i64 x.n, .int .i64 x.m, .int .i64 x.b, .int .i64 x.a] 40)).alloc (.cells #[.slice none 0 0, .slice none 0 0] 27)).alloc (.cells #[.int .i64 0] 2) = w1 at *
 obtain ⟨e0, e1⟩ := P2.two
 have hB1 := HB.out w1 hb0
 go_wp2_with (first | (refine wpList_load_row rfl 40 (.tmp 3) rfl (w.heap.size + 1) rfl 40 #[.int .i64 x.k, .int .i64 x.o.id, .int .i64 x.o.p, .int .i64 x.o.d, .int .i64 x.o.n, .int .i64 x.o.f, .int .i64 x.o.e, .int .i64 x.o.c, .int .i64 x.o.s, .bool x.o.two, .int .i64 x.id, .int .i64 x.p, .int .i64 x.d, .int .i64 x.n, .int .i64 x.m, .int .i64 x.b, .int .i64 x.a] (0, 0) _ P3 Tryz.underlying40 rfl (by kernel_rfl) ?_) | fail)
 refine hB1.mono ?_
 rintro e w2 ⟨v1, v2, rfl, hN2, hb2⟩
 obtain ⟨a1, c1, a2, c2, rfl, rfl⟩ := hN2.form
 have b2 := hidden (hb0.trans (hb2.mono hb0.size))
 have P42 := P4.below hb2
 have P52 := P5.below hb2
 have HN := hidden (zav hN2 hb0.size)
 obtain ⟨q0, q1⟩ := P42.two
 have f0 := P42.frozen 0
 have f1 := P42.frozen 1
 have s0 : w2.cell? ⟨w.heap.size + 1 + 1 + 1, 0, none⟩ = some _ := P52.cell 0
 have t0 := P52.frozen 0
 have P43 : PB (w2.setCell ⟨w.heap.size + 1 + 1, 0, none⟩ (.slice a1 L1.length c1)) (w.heap.size + 1 + 1) #[.slice a1 L1.length c1, .slice none 0 0] 27 := P42.put 0 _ (by simp)
 have P44 : PB ((w2.setCell ⟨w.heap.size + 1 + 1, 0, none⟩ (.slice a1 L1.length c1)).setCell ⟨w.heap.size + 1 + 1, 1, none⟩ (.slice a2 L2.length c2)) (w.heap.size + 1 + 1) #[.slice a1 L1.length c1, .slice a2 L2.length c2] 27 := P43.put 1 _ (by simp)
 have P54 := (P52.far (b := w.heap.size + 1 + 1) (by omega) 0 (.slice a1 L1.length c1)).far (b := w.heap.size + 1 + 1) (by omega) 1 (.slice a2 L2.length c2)
 have N4 := zaf (zaf HN.out P42 (by decide) (by decide) 0 (.slice a1 L1.length c1)) P43 (by decide) (by decide) 1 (.slice a2 L2.length c2)
 have HP4 := hidden (P44.far (b := w.heap.size + 1 + 1 + 1) (by omega) 0 (.int .i64 0))
 have HP5 : Hid (PB (((w2.setCell ⟨w.heap.size + 1 + 1, 0, none⟩ (.slice a1 L1.length c1)).setCell ⟨w.heap.size + 1 + 1, 1, none⟩ (.slice a2 L2.length c2)).setCell ⟨w.heap.size + 1 + 1 + 1, 0, none⟩ (.int .i64 0)) (w.heap.size + 1 + 1 + 1) #[.int .i64 0] 2) := P54.put 0 (.int .i64 0) (by simp)
 have HN4 := hidden (zaf N4 P54 (by decide) (by decide) 0 (.int .i64 0))
 have HB4 := hidden (((b2.out.setCell (p := ⟨w.heap.size + 1 + 1, 0, none⟩) (by show w.heap.size <= w.heap.size + 1 + 1; omega) (.slice a1 L1.length c1)).setCell (p := ⟨w.heap.size + 1 + 1, 1, none⟩) (by show w.heap.size <= w.heap.size + 1 + 1; omega) (.slice a2 L2.length c2)).setCell (p := ⟨w.heap.size + 1 + 1 + 1, 0, none⟩) (by show w.heap.size <= w.heap.size + 1 + 1 + 1; omega) (.int .i64 0))
 clear P42 P43 P44 P54 N4 P52 hN2 P2 P3 P4 P5 hb0 hb2 hB1 HB e0 e1
 go_wp2_with fail
 refine leaves_cons (f := 25) (args := #[.pointer (some ⟨w.heap.size, 0, none⟩), .pointer (some ⟨w.heap.size + 1 + 1, 0, none⟩), .pointer (some ⟨w.heap.size + 1 + 1 + 1, 0, none⟩)]) (by simp) (by simp [go_sem]) ?_
 refine (zlb _ _ _ _).mono ?_
 rintro e u' w'' ⟨rfl, rfl, rfl⟩
 simp only [settle]
 exact ⟨_, zhl Tryz.results8 _ _ (w.heap.size + 1 + 1) (w.heap.size + 1 + 1 + 1) 27 2 _ 0 _ .i64 rfl HP4.out Tryz.underlying27 rfl (by kernel_rfl) rfl HP5.out Tryz.underlying2, _, _, rfl, HN4.out, HB4.out⟩
def zd6 (w : World) : Prop := w.cell? ⟨0, 0, none⟩ = some (.iface 130 (.agg #[.pointer (some ⟨1, 81, none⟩)])) /\ 0 < w.heap.size
theorem zd6.below {w w' : World} (h : zd6 w) (hb : Below w.heap.size w w') : zd6 w' := ⟨(hb.cell (p := ⟨0, 0, none⟩) h.2).trans h.1, Nat.lt_of_lt_of_le h.2 hb.size⟩
set_option maxRecDepth 20000 in
set_option maxHeartbeats 16000000 in
theorem zi9 (ao : Option Addr) (n cap : Nat) (ad : Option Addr) (m dcap : Nat) (os : List Od) (ds : List Ds) (x : Dd) (w : World) (hR : Cp.CRw w (.slice ao n cap) (.slice ad m dcap) os ds) (hn : os.length <= 1048576) (hm : ds.length <= 1048576) (hl : zd6 w) :
  Calls Tryz.prog 8 #[.agg #[.slice ao n cap, .slice ad m dcap], aDd x] w (zch (zbb os ds x) (zbg os ds x) (odC os ds x) w) := by
 have hCO : ∀ c, ∀ W, Below w.heap.size w W -> Calls Tryz.prog 27 #[kz x.k c] W fun e w' => e = .returned (.int .i64 c) /\ Below W.heap.size W w' := fun c W hW => zlg x.k c W (hl.below hW).1 (hl.below hW).2
 cases hc : ji os ds with
 | false =>
  have e1 : odC os ds x = 1 := by simp [odC, hc]
  have e2 : zbb os ds x = [] := by simp [zbb, hc]
  have e3 : zbg os ds x = [] := by simp [zbg, hc]
  rw [e1, e2, e3]
  exact zi8 ao n cap ad m dcap x 1 [] [] w (fun W hW => zln ao n cap ad m dcap os ds x W (hR.below hW) hn hm hc) (hCO 1) (fun W _ => zja ao n cap ad m dcap 1 W rfl)
 | true =>
  by_cases h0 : doC os ds x = 0
  ·have e1 : odC os ds x = 0 := by simp [odC, hc, h0]
   have e2 : zbb os ds x = ve os x := by simp [zbb, hc, h0]
   have e3 : zbg os ds x = qo os ds x := by simp [zbg, hc, h0]
   rw [e1, e2, e3]
   refine zjb ao n cap ad m dcap x (ve os x) (qo os ds x) w (fun W hW => (zij ao n cap ad m dcap os ds x W (hR.below hW) hc).mono fun e w' h => ?_)
   rcases h with ⟨h1, _⟩ | ⟨_, h2⟩
   ·exact absurd h0 h1
   ·exact h2
  ·have e1 : odC os ds x = doC os ds x := by simp [odC, hc]
   have e2 : zbb os ds x = os := by simp [zbb, hc, h0]
   have e3 : zbg os ds x = ds := by simp [zbg, hc, h0]
   rw [e1, e2, e3]
   refine zi8 ao n cap ad m dcap x (doC os ds x) os ds w (fun W hW => (zij ao n cap ad m dcap os ds x W (hR.below hW) hc).mono fun e w' h => ?_) (hCO _) (fun W hW => zk5 ao n cap ad m dcap (doC os ds x) W os ds (hR.below hW) hn hm doC_ne)
   rcases h with ⟨_, h1, h2⟩ | ⟨h1, _⟩
   ·exact ⟨h1, h2⟩
   ·exact absurd h1 h0
end Go.Proofs.YtjlpfpigggdemaaGreatDoor
namespace Go.Proofs.YtjlpfpigggdemaaGreatDoor
open Go.RowKit Va Uo
set_option linter.all false
theorem vz.far {α : Type} {s : Nat} {cs : α -> Nat -> Value} {w : World} {base B : Nat} {v : Value} {l : List α} (h : vz s cs w base v l) (hB : B < base) (j : Nat) (u : Value) : vz s cs (w.setCell ⟨B, j, none⟩ u) base v l := by
 obtain ⟨ao, cap, rfl, hc, hh⟩ := h
 refine ⟨ao, cap, rfl, hc, hh.imp_right ?_⟩
 rintro ⟨G, rfl, hG, h1, h2, h3⟩
 have e : ∀ o, (w.setCell ⟨B, j, none⟩ u).cell? ⟨G, o, none⟩ = w.cell? ⟨G, o, none⟩ := fun o => World.cell?_setCell_far _ _ _ _ (by show B ≠ G; omega)
 exact ⟨G, rfl, hG, by simpa [World.setCell] using h1, fun i hi => ⟨by rw [e]; exact (h2 i hi).1, by rw [World.frozen?_setCell]; exact (h2 i hi).2⟩, fun i x hi hx k hk => by rw [e]; exact h3 i x hi hx k hk⟩
theorem zjd {fn : Func} {p : Tmp} {ty : TypeId} (h : fn.results = #[.cell p ty]) (tmps : Array Value) (P : Program) (w : World) :
  (results fn tmps).run P w = ((asAddr (tmps.getD p undef)).run P w).andThen fun a w₁ => (loadVar ty a).run P w₁ := by
 simp only [results, h]
 simp [Sem.run_bind, Result.andThen]
theorem zim {P : Program} {fn : Func} {p : Tmp} {ty : TypeId} (h : fn.results = #[.cell p ty]) (tmps : Array Value) (w : World) (g : Nat) (t : TypeId) (cs : Array Value) (d : TypeDesc)
  (hp : tmps.getD p undef = .pointer (some ⟨g, 0, none⟩)) (hg : PB w g cs t) (hu : P.underlying ty = some d) (hd : (match d with | .struct _ | .array _ _ => true | _ => false) = true) (hi : (P.info? ty).map (·.size) = some cs.size) :
  (results fn tmps).run P w = .ok (.agg cs) w := by
 have hl := run_loadVar_row (P := P) w g t ty cs _ d hg hu hd hi
 rw [zjd h, hp]
 simp [asAddr, hl, Result.andThen]
end Go.Proofs.YtjlpfpigggdemaaGreatDoor
namespace Go.Proofs.YtjlpfpigggdemaaGreatDoor
open Go.RowKit Va Uo
set_option linter.all false
def cmod (x : Int) (k : Nat) : Value := match k with | 0 => .int .i64 (x + 0) | 1 => .int .i64 (x + 1) | 2 => .int .i64 (x + 2) | 3 => .int .i64 (x + 3) | 4 => .int .i64 (x + 4) | 5 => .int .i64 (x + 5) | 6 => .int .i64 (x + 6) | 7 => .int .i64 (x + 7) | _ => .bool ((x + 8) % 3 == 0)
end Go.Proofs.YtjlpfpigggdemaaGreatDoor
namespace Go.Proofs.YtjlpfpigggdemaaGreatDoor
open Go.RowKit Va Uo
set_option linter.all false
structure Mkd (w w' : World) (v2 v3 : Value) (os : List Od) (ds : List Ds) (b2 b3 : Nat) (k0 : Int) : Prop where
 ords : vz 9 cmod w' b2 v2 (marks 9 k0 os.length)
 doss : vz 5 cmds w' b3 v3 (marks 5 (k0 + 9 * (os.length : Int)) ds.length)
 below : ∀ b0 w0, Below b0 w0 w -> b0 <= w.heap.size -> b0 <= b2 -> b0 <= b3 -> Below b0 w0 w'
 young : ∀ (γ : Type) (s : Nat) (cs : γ -> Nat -> Value) (b : Nat) (v : Value) (l : List γ), vz s cs w b v l -> (∃ wx, vz 9 jd wx b2 v2 os /\ wx.heap.size <= b) -> (∃ wx, vz 5 jy wx b3 v3 ds /\ wx.heap.size <= b) -> vz s cs w' b v l
 box : ∀ (B : Nat) (vs : Array Value) (t : TypeId), PB w B vs t -> (∃ wx, vz 9 jd wx b2 v2 os /\ wx.heap.size <= B) -> (∃ wx, vz 5 jy wx b3 v3 ds /\ wx.heap.size <= B) -> PB w' B vs t
end Go.Proofs.YtjlpfpigggdemaaGreatDoor
namespace Go.Proofs.YtjlpfpigggdemaaGreatDoor
open Go.RowKit Va Uo Go.WideShapes
set_option linter.all false
end Go.Proofs.YtjlpfpigggdemaaGreatDoor
namespace Go.Proofs.YtjlpfpigggdemaaGreatDoor
open Go.RowKit Va Uo Go.WideShapes
set_option linter.all false
theorem PB.d0 {W : World} {B : Nat} {t : TypeId} {v0 v1 v2 v3 v4 v5 v6 v7 v8 v9 v10 v11 v12 v13 v14 v15 v16 : Value} (h : PB W B #[v0, v1, v2, v3, v4, v5, v6, v7, v8, v9, v10, v11, v12, v13, v14, v15, v16] t) (x : Value) : PB (W.setCell ⟨B, 0, none⟩ x) B #[x, v1, v2, v3, v4, v5, v6, v7, v8, v9, v10, v11, v12, v13, v14, v15, v16] t := h.set 0 x
theorem PB.d1 {W : World} {B : Nat} {t : TypeId} {v0 v1 v2 v3 v4 v5 v6 v7 v8 v9 v10 v11 v12 v13 v14 v15 v16 : Value} (h : PB W B #[v0, v1, v2, v3, v4, v5, v6, v7, v8, v9, v10, v11, v12, v13, v14, v15, v16] t) (x : Value) : PB (W.setCell ⟨B, 1, none⟩ x) B #[v0, x, v2, v3, v4, v5, v6, v7, v8, v9, v10, v11, v12, v13, v14, v15, v16] t := h.set 1 x
theorem PB.d2 {W : World} {B : Nat} {t : TypeId} {v0 v1 v2 v3 v4 v5 v6 v7 v8 v9 v10 v11 v12 v13 v14 v15 v16 : Value} (h : PB W B #[v0, v1, v2, v3, v4, v5, v6, v7, v8, v9, v10, v11, v12, v13, v14, v15, v16] t) (x : Value) : PB (W.setCell ⟨B, 2, none⟩ x) B #[v0, v1, x, v3, v4, v5, v6, v7, v8, v9, v10, v11, v12, v13, v14, v15, v16] t := h.set 2 x
theorem PB.d3 {W : World} {B : Nat} {t : TypeId} {v0 v1 v2 v3 v4 v5 v6 v7 v8 v9 v10 v11 v12 v13 v14 v15 v16 : Value} (h : PB W B #[v0, v1, v2, v3, v4, v5, v6, v7, v8, v9, v10, v11, v12, v13, v14, v15, v16] t) (x : Value) : PB (W.setCell ⟨B, 3, none⟩ x) B #[v0, v1, v2, x, v4, v5, v6, v7, v8, v9, v10, v11, v12, v13, v14, v15, v16] t := h.set 3 x
theorem PB.d4 {W : World} {B : Nat} {t : TypeId} {v0 v1 v2 v3 v4 v5 v6 v7 v8 v9 v10 v11 v12 v13 v14 v15 v16 : Value} (h : PB W B #[v0, v1, v2, v3, v4, v5, v6, v7, v8, v9, v10, v11, v12, v13, v14, v15, v16] t) (x : Value) : PB (W.setCell ⟨B, 4, none⟩ x) B #[v0, v1, v2, v3, x, v5, v6, v7, v8, v9, v10, v11, v12, v13, v14, v15, v16] t := h.set 4 x
theorem PB.d5 {W : World} {B : Nat} {t : TypeId} {v0 v1 v2 v3 v4 v5 v6 v7 v8 v9 v10 v11 v12 v13 v14 v15 v16 : Value} (h : PB W B #[v0, v1, v2, v3, v4, v5, v6, v7, v8, v9, v10, v11, v12, v13, v14, v15, v16] t) (x : Value) : PB (W.setCell ⟨B, 5, none⟩ x) B #[v0, v1, v2, v3, v4, x, v6, v7, v8, v9, v10, v11, v12, v13, v14, v15, v16] t := h.set 5 x
theorem PB.d6 {W : World} {B : Nat} {t : TypeId} {v0 v1 v2 v3 v4 v5 v6 v7 v8 v9 v10 v11 v12 v13 v14 v15 v16 : Value} (h : PB W B #[v0, v1, v2, v3, v4, v5, v6, v7, v8, v9, v10, v11, v12, v13, v14, v15, v16] t) (x : Value) : PB (W.setCell ⟨B, 6, none⟩ x) B #[v0, v1, v2, v3, v4, v5, x, v7, v8, v9, v10, v11, v12, v13, v14, v15, v16] t := h.set 6 x
theorem PB.d7 {W : World} {B : Nat} {t : TypeId} {v0 v1 v2 v3 v4 v5 v6 v7 v8 v9 v10 v11 v12 v13 v14 v15 v16 : Value} (h : PB W B #[v0, v1, v2, v3, v4, v5, v6, v7, v8, v9, v10, v11, v12, v13, v14, v15, v16] t) (x : Value) : PB (W.setCell ⟨B, 7, none⟩ x) B #[v0, v1, v2, v3, v4, v5, v6, x, v8, v9, v10, v11, v12, v13, v14, v15, v16] t := h.set 7 x
theorem PB.d8 {W : World} {B : Nat} {t : TypeId} {v0 v1 v2 v3 v4 v5 v6 v7 v8 v9 v10 v11 v12 v13 v14 v15 v16 : Value} (h : PB W B #[v0, v1, v2, v3, v4, v5, v6, v7, v8, v9, v10, v11, v12, v13, v14, v15, v16] t) (x : Value) : PB (W.setCell ⟨B, 8, none⟩ x) B #[v0, v1, v2, v3, v4, v5, v6, v7, x, v9, v10, v11, v12, v13, v14, v15, v16] t := h.set 8 x
theorem PB.d9 {W : World} {B : Nat} {t : TypeId} {v0 v1 v2 v3 v4 v5 v6 v7 v8 v9 v10 v11 v12 v13 v14 v15 v16 : Value} (h : PB W B #[v0, v1, v2, v3, v4, v5, v6, v7, v8, v9, v10, v11, v12, v13, v14, v15, v16] t) (x : Value) : PB (W.setCell ⟨B, 9, none⟩ x) B #[v0, v1, v2, v3, v4, v5, v6, v7, v8, x, v10, v11, v12, v13, v14, v15, v16] t := h.set 9 x
end Go.Proofs.YtjlpfpigggdemaaGreatDoor
namespace Go.Proofs.YtjlpfpigggdemaaGreatDoor
open Go.RowKit Va Uo
set_option linter.all false
structure DO (w0 W : World) (g R V : Nat) (ao : Option Addr) (cap : Nat) (bs : List Int) (x : Od) : Prop where
 cur : Cur W g ao cap bs
 keep : Keep g w0 W
 r : PB W R #[.int .i64 0, .int .i64 0, .int .i64 0, .int .i64 0, .int .i64 0, .int .i64 0, .int .i64 0, .int .i64 0, .bool false] 38
 v : PB W V #[.int .i64 x.id, .int .i64 x.p, .int .i64 x.d, .int .i64 x.n, .int .i64 x.f, .int .i64 x.e, .int .i64 x.c, .int .i64 x.s, .bool x.two] 38
 ne : V ≠ R
 old : w0.heap.size <= R /\ w0.heap.size <= V
 gg : g < R /\ g < V
theorem DO.lt {w0 W : World} {g R V : Nat} {ao : Option Addr} {cap : Nat} {bs : List Int} {x : Od} (h : DO w0 W g R V ao cap bs x) : V < W.heap.size /\ R < W.heap.size := ⟨(Array.getElem?_eq_some_iff.1 h.v).1, (Array.getElem?_eq_some_iff.1 h.r).1⟩
theorem DO.call {w0 W : World} {g R V : Nat} {ao : Option Addr} {cap : Nat} {bs : List Int} {x : Od} {W' : World} (h : DO w0 W g R V ao cap bs x) (hc : Cur W' g ao cap bs) (hk : Keep g W W') : DO w0 W' g R V ao cap bs x :=
 ⟨hc, h.keep.trans hk, (hk.block R h.lt.2 (by have := h.gg; omega)).trans h.r, (hk.block V h.lt.1 (by have := h.gg; omega)).trans h.v, h.ne, h.old, h.gg⟩
theorem DO.alloc {w0 W : World} {g R V : Nat} {ao : Option Addr} {cap : Nat} {bs : List Int} {x : Od} (h : DO w0 W g R V ao cap bs x) (o : Obj) : DO w0 (W.alloc o) g R V ao cap bs x :=
 h.call (h.cur.below ((Below.refl _ _).alloc (by have := h.lt; have := h.gg; omega) _)) ((Keep.refl g W).alloc o)
def setO (x : Od) (j : Nat) (y : Int) : Od := match j with
 | 0 => { x with id := y }
 | 1 => { x with p := y }
 | 2 => { x with d := y }
 | 3 => { x with n := y }
 | 4 => { x with f := y }
 | 5 => { x with e := y }
 | 6 => { x with c := y }
 | _ => { x with s := y }
theorem DO.set {w0 W : World} {g R V : Nat} {ao : Option Addr} {cap : Nat} {bs : List Int} {x : Od} (h : DO w0 W g R V ao cap bs x) (j : Nat) (hj : j < 8) (y : Int) : DO w0 (W.setCell ⟨V, j, none⟩ (.int .i64 y)) g R V ao cap bs (setO x j y) := by
 have e := setCell_eq_setRow W V j _ _ _ (.int .i64 y) h.v
 have hb : Below (g + 1) W (W.setCell ⟨V, j, none⟩ (.int .i64 y)) := (Below.refl _ W).setCell (p := ⟨V, j, none⟩) (show g + 1 <= V by have := h.gg; omega) _
 refine ⟨h.cur.below hb, ⟨h.keep.os, h.keep.tape, h.keep.output, ?_, ?_⟩, ?_, ?_, h.ne, h.old, h.gg⟩
 ·have := h.keep.size; simpa [World.setCell] using this
 ·intro b hb' hbg
  rw [e, setRow_other _ _ _ _ (by have := h.old; omega)]
  exact h.keep.block b hb' hbg
 ·unfold PB
  rw [e, setRow_other _ _ _ _ (fun q => h.ne q.symm)]
  exact h.r
 ·unfold PB
  rw [e, setRow_heap _ _ _ _ _ _ h.v]
  rcases (show j = 0 ∨ j = 1 ∨ j = 2 ∨ j = 3 ∨ j = 4 ∨ j = 5 ∨ j = 6 ∨ j = 7 by omega) with rfl | rfl | rfl | rfl | rfl | rfl | rfl | rfl <;> rfl
theorem DO.told {w0 W : World} {g R V : Nat} {ao : Option Addr} {cap : Nat} {bs : List Int} {x : Od} (h : DO w0 W g R V ao cap bs x) : PB (W.setRow R #[.int .i64 x.id, .int .i64 x.p, .int .i64 x.d, .int .i64 x.n, .int .i64 x.f, .int .i64 x.e, .int .i64 x.c, .int .i64 x.s, .bool x.two]) R #[.int .i64 x.id, .int .i64 x.p, .int .i64 x.d, .int .i64 x.n, .int .i64 x.f, .int .i64 x.e, .int .i64 x.c, .int .i64 x.s, .bool x.two] 38 /\ Cur (W.setRow R #[.int .i64 x.id, .int .i64 x.p, .int .i64 x.d, .int .i64 x.n, .int .i64 x.f, .int .i64 x.e, .int .i64 x.c, .int .i64 x.s, .bool x.two]) g ao cap bs /\ Keep g w0 (W.setRow R #[.int .i64 x.id, .int .i64 x.p, .int .i64 x.d, .int .i64 x.n, .int .i64 x.f, .int .i64 x.e, .int .i64 x.c, .int .i64 x.s, .bool x.two]) := by
 refine ⟨setRow_heap _ _ _ _ _ _ h.r, h.cur.below ⟨rfl, rfl, rfl, by simp, fun k hk => setRow_other _ _ _ _ (by have := h.gg; omega)⟩, ?_⟩
 exact ⟨h.keep.os, h.keep.tape, h.keep.output, by have := h.keep.size; simpa using this, fun b hb hbg => (setRow_other _ _ _ _ (by have := h.old; omega)).trans (h.keep.block b hb hbg)⟩
set_option maxRecDepth 20000 in
set_option maxHeartbeats 16000000 in
theorem zgx (g : Nat) (ao : Option Addr) (cap : Nat) (bs : List Int) (w : World) (hc : Cur w g ao cap bs) :
  Calls Tryz.prog 49 #[.pointer (some ⟨g, 0, none⟩)] w fun e w' => (∃ x : Od, e = .returned (aOd x)) /\ Cur w' g ao cap bs /\ Keep g w w' := by
 have hcA : Cur (w.alloc (.cells #[.int .i64 0, .int .i64 0, .int .i64 0, .int .i64 0, .int .i64 0, .int .i64 0, .int .i64 0, .int .i64 0, .bool false] 38)) g ao cap bs := hc.below ((Below.refl _ _).alloc hc.1 _)
 have hkA : Keep g w (w.alloc (.cells #[.int .i64 0, .int .i64 0, .int .i64 0, .int .i64 0, .int .i64 0, .int .i64 0, .int .i64 0, .int .i64 0, .bool false] 38)) := (Keep.refl g w).alloc _
 have hrA : PB (w.alloc (.cells #[.int .i64 0, .int .i64 0, .int .i64 0, .int .i64 0, .int .i64 0, .int .i64 0, .int .i64 0, .int .i64 0, .bool false] 38)) w.heap.size #[.int .i64 0, .int .i64 0, .int .i64 0, .int .i64 0, .int .i64 0, .int .i64 0, .int .i64 0, .int .i64 0, .bool false] 38 := heap_alloc_new _ _
 have hgl := hc.1
 have hzA : w.heap.size < (w.alloc (.cells #[.int .i64 0, .int .i64 0, .int .i64 0, .int .i64 0, .int .i64 0, .int .i64 0, .int .i64 0, .int .i64 0, .bool false] 38)).heap.size := by simp
 go_enter Tryz.func49, Tryz.ntmps49
 generalize hwA : w.alloc (.cells #[.int .i64 0, .int .i64 0, .int .i64 0, .int .i64 0, .int .i64 0, .int .i64 0, .int .i64 0, .int .i64 0, .bool false] 38) = wA at *
 go_wp2_with fail
 refine (qh g ao cap bs 6 _ hcA (by omega)).mono ?_
 rintro e w1 ⟨y1, rfl, p1, q1, hc1, hk1⟩
 go_wp2_with fail
 refine (qh g ao cap bs 3 _ hc1 (by omega)).mono ?_
 rintro e w2 ⟨y2, rfl, p2, q2, hc2, hk2⟩
 go_wp2_with fail
 refine (qh g ao cap bs 3 _ hc2 (by omega)).mono ?_
 rintro e w3 ⟨y3, rfl, p3, q3, hc3, hk3⟩
 go_wp2_with fail
 refine (qh g ao cap bs 3 _ hc3 (by omega)).mono ?_
 rintro e w4 ⟨y4, rfl, p4, q4, hc4, hk4⟩
 go_wp2_with fail
 refine (qh g ao cap bs 8 _ hc4 (by omega)).mono ?_
 rintro e w5 ⟨y5, rfl, p5, q5, hc5, hk5⟩
 go_wp2_with fail
 refine (qh g ao cap bs 5 _ hc5 (by omega)).mono ?_
 rintro e w6 ⟨y6, rfl, p6, q6, hc6, hk6⟩
 go_wp2_with fail
 refine (qh g ao cap bs 5 _ hc6 (by omega)).mono ?_
 rintro e w7 ⟨y7, rfl, p7, q7, hc7, hk7⟩
 go_wp2_with fail
 refine (zcf g ao cap bs 3 _ hc7 (by omega)).mono ?_
 rintro e w8 ⟨t8, rfl, hc8, hk8⟩
 have hkR := ((((((hk1.trans hk2).trans hk3).trans hk4).trans hk5).trans hk6).trans hk7).trans hk8
 have hkB := hkA.trans hkR
 have hrB : PB w8 w.heap.size #[.int .i64 0, .int .i64 0, .int .i64 0, .int .i64 0, .int .i64 0, .int .i64 0, .int .i64 0, .int .i64 0, .bool false] 38 := (hkR.block w.heap.size hzA (by omega)).trans hrA
 have hzB : w.heap.size < w8.heap.size := (Array.getElem?_eq_some_iff.1 hrB).1
 have hd : DO w (w8.alloc (.cells #[.int .i64 (1 + y1), .int .i64 y2, .int .i64 (1 + y3), .int .i64 (100 * (1 + y4)), .int .i64 (30 * y5), .int .i64 (10 + 20 * y6), .int .i64 (1 + y7), .int .i64 1, .bool t8] 38)) g w.heap.size w8.heap.size ao cap bs ⟨1 + y1, y2, 1 + y3, 100 * (1 + y4), 30 * y5, 10 + 20 * y6, 1 + y7, 1, t8⟩ :=
  ⟨hc8.below ((Below.refl _ _).alloc hc8.1 _), hkB.alloc _, (((Below.refl w8.heap.size w8).alloc (Nat.le_refl _) _).block _ hzB).trans hrB, heap_alloc_new _ _, by omega, ⟨Nat.le_refl _, by omega⟩, ⟨hgl, hc8.1⟩⟩
 clear hkB hkR hrB hk1 hk2 hk3 hk4 hk5 hk6 hk7 hk8 hc1 hc2 hc3 hc4 hc5 hc6 hc7 hcA hkA hrA hzA hwA
 go_upto_region 2 with fail
 generalize w8.heap.size = V at *
 generalize w8.alloc (.cells #[.int .i64 (1 + y1), .int .i64 y2, .int .i64 (1 + y3), .int .i64 (100 * (1 + y4)), .int .i64 (30 * y5), .int .i64 (10 + 20 * y6), .int .i64 (1 + y7), .int .i64 1, .bool t8] 38) = wV at *
 generalize (⟨1 + y1, y2, 1 + y3, 100 * (1 + y4), 30 * y5, 10 + 20 * y6, 1 + y7, 1, t8⟩ : Od) = x0 at hd
 go_upto_if 30 with (go_at_call 12; refine (zcf g ao cap bs 40 _ hd.cur (by omega)).mono ?_; rintro e w9 ⟨t9, rfl, hc9, hk9⟩)
 have hd9 := hd.call hc9 hk9
 clear hc9 hk9 hd
 go_cut [] (fun wx => ∃ x, DO w wx g w.heap.size V ao cap bs x)
 case first =>
  rcases t9 with _ | _
  ·go_wp2_with fail
   go_meet
   case rel => exact ⟨_, hd9⟩
  ·go_wp2_with fail
   refine (qh g ao cap bs 8 _ hd9.cur (by omega)).mono ?_
   rintro e w10 ⟨y, rfl, hy0, hy1, hc10, hk10⟩
   have hd := hd9.call hc10 hk10
   clear hc10 hk10 hd9
   rcases (show y = 0 ∨ y = 1 ∨ y = 2 ∨ y = 3 ∨ y = 4 ∨ y = 5 ∨ y = 6 ∨ y = 7 by omega) with rfl | rfl | rfl | rfl | rfl | rfl | rfl | rfl
   ·go_wp2_with fail
    refine (qh g ao cap bs 3 _ (hd.alloc _).cur (by omega)).mono ?_
    rintro e w3 ⟨y, rfl, hy0, hy1, hc3, hk3⟩
    obtain ⟨k, rfl⟩ := Int.eq_ofNat_of_zero_le hy0
    have hk8 : k < 3 := by omega
    have hd3 := (hd.alloc _).call hc3 hk3
    obtain ⟨z, hz⟩ := zbw [0, 100000, 100001] w10 w3 g _ hk3 (Nat.lt_trans hd.gg.2 hd.lt.1) k hk8
    have m0 : w3.cell? ⟨V, 0, none⟩ = some _ := hd3.v.cell 0
    have n0 : w3.frozen? ⟨V, 0, none⟩ = false := hd3.v.frozen 0
    go_wp2_with fail
    go_meet
    case rel => exact ⟨_, hd3.set 0 (by omega) z⟩
   ·go_wp2_with fail
    refine (qh g ao cap bs 2 _ (hd.alloc _).cur (by omega)).mono ?_
    rintro e w3 ⟨y, rfl, hy0, hy1, hc3, hk3⟩
    obtain ⟨k, rfl⟩ := Int.eq_ofNat_of_zero_le hy0
    have hk8 : k < 2 := by omega
    have hd3 := (hd.alloc _).call hc3 hk3
    obtain ⟨z, hz⟩ := zbw [-1, 1000] w10 w3 g _ hk3 (Nat.lt_trans hd.gg.2 hd.lt.1) k hk8
    have m0 : w3.cell? ⟨V, 1, none⟩ = some _ := hd3.v.cell 1
    have n0 : w3.frozen? ⟨V, 1, none⟩ = false := hd3.v.frozen 1
    go_wp2_with fail
    go_meet
    case rel => exact ⟨_, hd3.set 1 (by omega) z⟩
   ·go_wp2_with fail
    refine (qh g ao cap bs 3 _ (hd.alloc _).cur (by omega)).mono ?_
    rintro e w3 ⟨y, rfl, hy0, hy1, hc3, hk3⟩
    obtain ⟨k, rfl⟩ := Int.eq_ofNat_of_zero_le hy0
    have hk8 : k < 3 := by omega
    have hd3 := (hd.alloc _).call hc3 hk3
    obtain ⟨z, hz⟩ := zbw [0, 1000, 1001] w10 w3 g _ hk3 (Nat.lt_trans hd.gg.2 hd.lt.1) k hk8
    have m0 : w3.cell? ⟨V, 2, none⟩ = some _ := hd3.v.cell 2
    have n0 : w3.frozen? ⟨V, 2, none⟩ = false := hd3.v.frozen 2
    go_wp2_with fail
    go_meet
    case rel => exact ⟨_, hd3.set 2 (by omega) z⟩
   ·go_wp2_with fail
    refine (qh g ao cap bs 3 _ (hd.alloc _).cur (by omega)).mono ?_
    rintro e w3 ⟨y, rfl, hy0, hy1, hc3, hk3⟩
    obtain ⟨k, rfl⟩ := Int.eq_ofNat_of_zero_le hy0
    have hk8 : k < 3 := by omega
    have hd3 := (hd.alloc _).call hc3 hk3
    obtain ⟨z, hz⟩ := zbw [0, 1000000000, 1000000001] w10 w3 g _ hk3 (Nat.lt_trans hd.gg.2 hd.lt.1) k hk8
    have m0 : w3.cell? ⟨V, 3, none⟩ = some _ := hd3.v.cell 3
    have n0 : w3.frozen? ⟨V, 3, none⟩ = false := hd3.v.frozen 3
    go_wp2_with fail
    go_meet
    case rel => exact ⟨_, hd3.set 3 (by omega) z⟩
   ·go_wp2_with fail
    refine (qh g ao cap bs 3 _ (hd.alloc _).cur (by omega)).mono ?_
    rintro e w3 ⟨y, rfl, hy0, hy1, hc3, hk3⟩
    obtain ⟨k, rfl⟩ := Int.eq_ofNat_of_zero_le hy0
    have hk8 : k < 3 := by omega
    have hd3 := (hd.alloc _).call hc3 hk3
    obtain ⟨z, hz⟩ := zbw [-1, 10000000, 10000001] w10 w3 g _ hk3 (Nat.lt_trans hd.gg.2 hd.lt.1) k hk8
    have m0 : w3.cell? ⟨V, 4, none⟩ = some _ := hd3.v.cell 4
    have n0 : w3.frozen? ⟨V, 4, none⟩ = false := hd3.v.frozen 4
    go_wp2_with fail
    go_meet
    case rel => exact ⟨_, hd3.set 4 (by omega) z⟩
   ·go_wp2_with fail
    refine (qh g ao cap bs 3 _ (hd.alloc _).cur (by omega)).mono ?_
    rintro e w3 ⟨y, rfl, hy0, hy1, hc3, hk3⟩
    obtain ⟨k, rfl⟩ := Int.eq_ofNat_of_zero_le hy0
    have hk8 : k < 3 := by omega
    have hd3 := (hd.alloc _).call hc3 hk3
    obtain ⟨z, hz⟩ := zbw [0, 1440, 1441] w10 w3 g _ hk3 (Nat.lt_trans hd.gg.2 hd.lt.1) k hk8
    have m0 : w3.cell? ⟨V, 5, none⟩ = some _ := hd3.v.cell 5
    have n0 : w3.frozen? ⟨V, 5, none⟩ = false := hd3.v.frozen 5
    go_wp2_with fail
    go_meet
    case rel => exact ⟨_, hd3.set 5 (by omega) z⟩
   ·go_wp2_with fail
    refine (qh g ao cap bs 3 _ (hd.alloc _).cur (by omega)).mono ?_
    rintro e w3 ⟨y, rfl, hy0, hy1, hc3, hk3⟩
    obtain ⟨k, rfl⟩ := Int.eq_ofNat_of_zero_le hy0
    have hk8 : k < 3 := by omega
    have hd3 := (hd.alloc _).call hc3 hk3
    obtain ⟨z, hz⟩ := zbw [0, 200, 201] w10 w3 g _ hk3 (Nat.lt_trans hd.gg.2 hd.lt.1) k hk8
    have m0 : w3.cell? ⟨V, 6, none⟩ = some _ := hd3.v.cell 6
    have n0 : w3.frozen? ⟨V, 6, none⟩ = false := hd3.v.frozen 6
    go_wp2_with fail
    go_meet
    case rel => exact ⟨_, hd3.set 6 (by omega) z⟩
   ·go_wp2_with fail
    refine (zcy g ao cap bs 0 5 _ hd.cur (by omega) (by omega) (by omega)).mono ?_
    rintro e w3 ⟨z, rfl, hz0, hz1, hc3, hk3⟩
    have hd3 := hd.call hc3 hk3
    have m0 : w3.cell? ⟨V, 7, none⟩ = some _ := hd3.v.cell 7
    have n0 : w3.frozen? ⟨V, 7, none⟩ = false := hd3.v.frozen 7
    go_wp2_with fail
    go_meet
    case rel => exact ⟨_, hd3.set 7 (by omega) z⟩
 case rest =>
  obtain ⟨x, hd⟩ := hcut
  obtain ⟨hT1, hT2, hT3⟩ := hd.told
  go_wp2_with (first | (refine wpList_load_row rfl 38 (.tmp 3) rfl V rfl 38 #[.int .i64 x.id, .int .i64 x.p, .int .i64 x.d, .int .i64 x.n, .int .i64 x.f, .int .i64 x.e, .int .i64 x.c, .int .i64 x.s, .bool x.two] (0, 0) _ hd.v Tryz.underlying38 rfl (by kernel_rfl) ?_) | (refine wpList_store_rowTo rfl 38 (.tmp 2) (.tmp 94) rfl rfl w.heap.size #[.int .i64 x.id, .int .i64 x.p, .int .i64 x.d, .int .i64 x.n, .int .i64 x.f, .int .i64 x.e, .int .i64 x.c, .int .i64 x.s, .bool x.two] rfl rfl 38 #[.int .i64 0, .int .i64 0, .int .i64 0, .int .i64 0, .int .i64 0, .int .i64 0, .int .i64 0, .int .i64 0, .bool false] hd.r (by kernel_rfl) rfl (by simp [Value.oneCell']) ?_))
  exact bodyPost_ret (zim Tryz.results49 _ _ w.heap.size 38 _ _ rfl hT1 Tryz.underlying38 rfl (by kernel_rfl)) rfl ⟨⟨x, rfl⟩, hT2, hT3⟩
end Go.Proofs.YtjlpfpigggdemaaGreatDoor
