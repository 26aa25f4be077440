/-
 Merged: U28 Uq Ur.
-/
import Derived.Test.YtjlpfpigggdemaaGreatDoorMi4
import Derived.Test.YtjlpfpigggdemaaGreatDoorMi5
import Derived.Test.YtjlpfpigggdemaaGreatDoorMi2
import Derived.Deep.RegionWith
import Derived.WideShapes
import Derived.ProofKit
import Derived.OpenShut
import Derived.ShutString
import Derived.ChangeOld
import Derived.Below
namespace Go.Proofs.YtjlpfpigggdemaaGreatDoor.Rg
set_option maxRecDepth 8000
set_option maxHeartbeats 4000000
section
variable {P : Program} {ops : Array Oper} {Q : Exit -> Act -> World -> Prop}
theorem zdk {i f : Nat} {o : Oper} {b : Act} {w : World} {args : Array Value} {K : Act -> World -> Prop} {R : Ending -> World -> Prop} (hi : ops[i]? = some o) (hw : Region.wanted o (yielded ops b.tmps) = true) (hr : (execOp b.eval o).run P w = .ok (.enter f args) w) (hc : Calls P f args w R) (hK : ∀ e w', R e w' -> ∃ ch, e = .panicked ch /\ Q (.panic ch) b w') : wpOp P ops Q i K b w := by
 unfold wpOp
 simp only [hi, hw, if_true, Oper.wp, hr, Oper.upon]
 refine .inl (hc.mono fun e w' he => ?_)
 obtain ⟨ch, rfl, h⟩ := hK e w' he
 exact h
end
end Go.Proofs.YtjlpfpigggdemaaGreatDoor.Rg
namespace Go.Proofs.YtjlpfpigggdemaaGreatDoor
open Go.RowKit Va Uo
set_option linter.all false
theorem zce (x : Dd) (c : Int) (w : World) : Calls Tryz.prog 44 #[.agg #[.int .i64 x.k, .int .i64 x.o.id, .int .i64 x.o.p, .int .i64 x.o.d, .int .i64 x.o.n, .int .i64 x.o.f, .int .i64 x.o.e, .int .i64 x.o.c, .int .i64 x.o.s, .bool x.o.two, .int .i64 x.id, .int .i64 x.p, .int .i64 x.d, .int .i64 x.n, .int .i64 x.m, .int .i64 x.b, .int .i64 x.a], .bool true, .int .i64 c] w fun e w' => e = .panicked [{ v := kz x.k c, recovered := false }] /\ Below w.heap.size w w' := zko x c w
theorem zbz (x : Dd) (c : Int) (w : World) : Calls Tryz.prog 44 #[.agg #[.int .i64 x.k, .int .i64 x.o.id, .int .i64 x.o.p, .int .i64 x.o.d, .int .i64 x.o.n, .int .i64 x.o.f, .int .i64 x.o.e, .int .i64 x.o.c, .int .i64 x.o.s, .bool x.o.two, .int .i64 x.id, .int .i64 x.p, .int .i64 x.d, .int .i64 x.n, .int .i64 x.m, .int .i64 x.b, .int .i64 x.a], .bool false, .int .i64 c] w fun e w' => e = .returned (.tuple #[]) /\ Below w.heap.size w w' := istop_no x c w
theorem zj2 (x : Dd) (s : Int) (w : World) (hk : x.k = 2 ∨ x.k = 3 ∨ x.k = 4) : Calls Tryz.prog 76 #[.agg #[.int .i64 x.k, .int .i64 x.o.id, .int .i64 x.o.p, .int .i64 x.o.d, .int .i64 x.o.n, .int .i64 x.o.f, .int .i64 x.o.e, .int .i64 x.o.c, .int .i64 x.o.s, .bool x.o.two, .int .i64 x.id, .int .i64 x.p, .int .i64 x.d, .int .i64 x.n, .int .i64 x.m, .int .i64 x.b, .int .i64 x.a], .int .i64 s] w fun e w' => e = .returned (.int .i64 (if yc s x.k = true then x.k else 0)) /\ Below w.heap.size w w' := zlc x s w hk
theorem zid (o : Od) (b a : Int) (w : World) {t : Bool} (ht : za3 o.two b a = t) : Calls Tryz.prog 74 #[.agg #[.int .i64 o.id, .int .i64 o.p, .int .i64 o.d, .int .i64 o.n, .int .i64 o.f, .int .i64 o.e, .int .i64 o.c, .int .i64 o.s, .bool o.two], .int .i64 b, .int .i64 a] w fun e w' => e = .returned (.bool t) /\ Below w.heap.size w w' := ht ▸ zhw o b a w
set_option maxRecDepth 20000 in
set_option maxHeartbeats 16000000 in
theorem zg9 (vo : Value) (ad : Option Addr) (dcap : Nat) (ds : List Ds) (m : Int) (w : World) (hd : VRw 5 jy w (.slice ad ds.length dcap) ds) (hm : ds.length <= 1048576) (ho1 : ∃ a n c, vo = .slice a n c) {t : Bool} (ht : zay ds m = t) :
  Calls Tryz.prog 75 #[.agg #[vo, .slice ad ds.length dcap], .int .i64 m] w fun e w' => e = .returned (.bool t) /\ Below w.heap.size w w' := by
 obtain ⟨sa, sn, sc, rfl⟩ := ho1
 have hb0 : Below w.heap.size w (w.alloc (.cells #[.slice sa sn sc, .slice ad ds.length dcap] 27)) := (Below.refl _ _).alloc (Nat.le_refl _) _
 have HH := hidden (hd.below hb0)
 have HT := hidden ht
 clear hd ht
 by_cases h0 : ds.length = 0
 ·obtain rfl : t = false := by rw [<- HT.out, zay, decide_eq_false (by omega)]; rfl
  clear HT
  have hw : IntKind.i64.wrap ((ds.length : Int) - 1) = -1 := by rw [IntKind.wrap_i64]; omega
  have HW0 := hidden h0
  clear h0
  go_enter Tryz.func75, Tryz.ntmps75
  go_wp2
  all_goals (go_ret; exact ⟨rfl, hb0⟩)
 ·obtain ⟨n1, h1⟩ : ∃ n1, ds.length = n1 + 1 := ⟨ds.length - 1, by omega⟩
  obtain ⟨y, hy⟩ : ∃ y, ds[n1]? = some y := ⟨_, List.getElem?_eq_getElem (by omega)⟩
  obtain ⟨gd, od, rfl, zd, hcell⟩ := HH.out.at hy
  obtain rfl : t = decide (m < y.m) := by rw [<- HT.out]; unfold zay; rw [decide_eq_true (by omega), h1, Nat.add_sub_cancel, zbj hy]; rfl
  have e2 : (w.alloc (.cells #[.slice sa sn sc, .slice (some ⟨gd, od, none⟩) ds.length dcap] 27)).cell? ⟨gd, od + n1 * 5 + 2, none⟩ = some (.int .i64 y.m) := hcell 2 (by decide)
  have hw : IntKind.i64.wrap ((ds.length : Int) - 1) = (n1 : Int) := by rw [IntKind.wrap_i64]; omega
  have g0 : (0 : Int) <= (n1 : Int) := by omega
  have g1 : (n1 : Int) < (ds.length : Int) := by omega
  clear HT HH hy hcell h0 h1
  go_enter Tryz.func75, Tryz.ntmps75
  go_wp2
  all_goals (go_ret; exact ⟨by first | rfl | exact qw (by first | (simp; done) | (simp; omega) | (simp_all; done) | (simp_all; omega) | (rw [Bool.eq_iff_iff]; simp; omega) | (rw [Bool.eq_iff_iff]; simp_all; omega)), hb0⟩)
def FS3 (B2 B3 g off N cap k : Nat) (vd : Value) (x : Dd) (s : Int) (i9 : Nat) (v : Value) (w : World) : Prop :=
 match i9 with
 | 0 => v = .agg #[.int .i64 x.k, .int .i64 x.o.id, .int .i64 x.o.p, .int .i64 x.o.d, .int .i64 x.o.n, .int .i64 x.o.f, .int .i64 x.o.e, .int .i64 x.o.c, .int .i64 x.o.s, .bool x.o.two, .int .i64 x.id, .int .i64 x.p, .int .i64 x.d, .int .i64 x.n, .int .i64 x.m, .int .i64 x.b, .int .i64 x.a]
 | 1 => v = .pointer (some ⟨B2, 0, none⟩)
 | 2 => v = .slice (some ⟨g, off, none⟩) N cap
 | 3 => v = .int .i64 (k : Nat)
 | 4 => v = .pointer (some ⟨g, off + k * 9, none⟩)
 | 5 => v = .pointer (some ⟨g, off + k * 9 + 7, none⟩)
 | 6 => v = .int .i64 s
 | 7 => v = .int .i64 (if yc s x.k = true then x.k else 0)
 | 8 => v = .int .i64 (if yc s x.k = true then x.k else 0)
 | _ => True
theorem zdm : (Rg.opsOf Tryz.f48 3).size = 9 := by kernel_rfl
set_option maxRecDepth 20000 in
set_option maxHeartbeats 16000000 in
theorem regS3 {Q : Exit -> Act -> World -> Prop} {a : Act} {w9 : World} {B2 B3 g off N cap k : Nat} {vd : Value} {x : Dd} {s : Int} (ha : a.tmps.size = 38)
  (k3 : a.tmps[3]? = some (.pointer (some ⟨B3, 0, none⟩))) (k2 : a.tmps[2]? = some (.pointer (some ⟨B2, 0, none⟩))) (k5 : a.tmps[5]? = some (.int .i64 (k : Nat))) (p3 : PB w9 B3 #[.int .i64 x.k, .int .i64 x.o.id, .int .i64 x.o.p, .int .i64 x.o.d, .int .i64 x.o.n, .int .i64 x.o.f, .int .i64 x.o.e, .int .i64 x.o.c, .int .i64 x.o.s, .bool x.o.two, .int .i64 x.id, .int .i64 x.p, .int .i64 x.d, .int .i64 x.n, .int .i64 x.m, .int .i64 x.b, .int .i64 x.a] 40) (p2 : PB w9 B2 #[.slice (some ⟨g, off, none⟩) N cap, vd] 27) (hk : (k : Int) < (N : Int)) (es : w9.cell? ⟨g, off + k * 9 + 7, none⟩ = some (.int .i64 s)) (zg : g < w9.heap.size) (hxk : x.k = 2 ∨ x.k = 3 ∨ x.k = 4)
  (hend : ∀ b' w', Rg.Fr (Rg.opsOf Tryz.f48 3) a b' -> Below w9.heap.size w9 w' -> Rg.out (Rg.opsOf Tryz.f48 3) b' 8 = .int .i64 (if yc s x.k = true then x.k else 0) -> Q .normal b' w') :
  (Code.region 3 (Rg.opsOf Tryz.f48 3) true).wp Tryz.prog Q a w9 := by
 refine Rg.zas (by kernel_rfl) (fun w' => Below w9.heap.size w9 w') (FS3 B2 B3 g off N cap k vd x s) (fun _ => none) (by rw [ha, zdm]; kernel_rfl) (jq (Below.refl _ _)) ?_ ?_
 case refine_2 =>
  intro b' w' hf hI hA
  rw [zdm] at hA
  exact hend b' w' hf hI (hA 8 (by decide) rfl)
 case refine_1 =>
  clear hend
  have HS : ∀ {w w' : World}, Below w.heap.size w w' -> ∀ k9 y9, FS3 B2 B3 g off N cap k vd x s k9 y9 w -> FS3 B2 B3 g off N cap k vd x s k9 y9 w' := fun hb k9 y9 h => by
   unfold FS3 at *
   split at h <;> exact h
  intro i' hi'
  rw [zdm] at hi'
  rcases (show i' = 0 ∨ i' = 1 ∨ i' = 2 ∨ i' = 3 ∨ i' = 4 ∨ i' = 5 ∨ i' = 6 ∨ i' = 7 ∨ i' = 8 by omega) with rfl | rfl | rfl | rfl | rfl | rfl | rfl | rfl | rfl
  ·intro bb w' hf hI hA
   clear hi'
   have q3 := hf.kept (s := 3) (by rw [zdm]; kernel_rfl) k3
   obtain ⟨e30, ⟨e31, e32, e33, e34, e35, e36, e37, e38, e39⟩, e3a, e3b, e3c, e3d, e3e, e3f, e3g⟩ := (p3.below hI).deed
   clear p3 p2 es
   clear hA HS 
   exact Rg.zf (o := ⟨some 19, Op.load 40 (Operand.tmp 3), _, _, _, _⟩) (x := .agg #[.int .i64 x.k, .int .i64 x.o.id, .int .i64 x.o.p, .int .i64 x.o.d, .int .i64 x.o.n, .int .i64 x.o.f, .int .i64 x.o.e, .int .i64 x.o.c, .int .i64 x.o.s, .bool x.o.two, .int .i64 x.id, .int .i64 x.p, .int .i64 x.d, .int .i64 x.n, .int .i64 x.m, .int .i64 x.b, .int .i64 x.a]) rfl rfl (by simp only [execOp]; go_simp) ⟨_, rfl, (fun h => by cases h), rfl, hI, fun _ _ _ h => h⟩
  ·intro bb w' hf hI hA
   clear hi'
   have q2 := hf.kept (s := 2) (by rw [zdm]; kernel_rfl) k2
   clear hA HS 
   exact Rg.zf (o := ⟨some 20, Op.fieldAddr 27 (Operand.tmp 2) 0, _, _, _, _⟩) (x := .pointer (some ⟨B2, 0, none⟩)) rfl rfl (by simp only [execOp]; go_simp) ⟨_, rfl, (fun h => by cases h), rfl, hI, fun _ _ _ h => h⟩
  ·intro bb w' hf hI hA
   clear hi'
   have q20 : bb.tmps[20]? = some _ := hf.tmp (k := 1) rfl (by rw [ha]; decide) (hA 1 (by kernel_rfl) (.inl rfl))
   have e := (p2.below hI).cell 0
   have e0 : w'.cell? ⟨B2, 0, none⟩ = some (.slice (some ⟨g, off, none⟩) N cap) := e
   clear p3 p2 es e
   clear hA HS 
   exact Rg.zf (o := ⟨some 21, Op.load 24 (Operand.tmp 20), _, _, _, _⟩) (x := .slice (some ⟨g, off, none⟩) N cap) rfl rfl (by simp only [execOp]; go_simp) ⟨_, rfl, (fun h => by cases h), rfl, hI, fun _ _ _ h => h⟩
  ·intro bb w' hf hI hA
   clear hi'
   have q0 := hf.kept (s := 5) (by rw [zdm]; kernel_rfl) k5
   exact Rg.zf (o := ⟨some 22, Op.move (Operand.tmp 5), _, _, _, _⟩) rfl rfl rfl ⟨_, rfl, (fun h => by cases h), (by show Act.eval bb _ = _; simp [Act.eval, q0]), hI, fun _ _ _ h => h⟩
  ·intro bb w' hf hI hA
   clear hi'
   have q21 : bb.tmps[21]? = some _ := hf.tmp (k := 2) rfl (by rw [ha]; decide) (hA 2 (by kernel_rfl) (.inl rfl))
   have q22 : bb.tmps[22]? = some _ := hf.tmp (k := 3) rfl (by rw [ha]; decide) (hA 3 (by kernel_rfl) (.inl rfl))
   have h0 : (0 : Int) <= (k : Int) := by omega
   clear p3 p2 es
   clear hA HS 
   exact Rg.zf (o := ⟨some 23, Op.indexAddr 24 (Operand.tmp 21) (Operand.tmp 22), _, _, _, _⟩) (x := .pointer (some ⟨g, off + k * 9, none⟩)) rfl rfl (by simp only [execOp]; go_simp) ⟨_, rfl, (fun h => by cases h), rfl, hI, fun _ _ _ h => h⟩
  ·intro bb w' hf hI hA
   clear hi'
   have q23 : bb.tmps[23]? = some _ := hf.tmp (k := 4) rfl (by rw [ha]; decide) (hA 4 (by kernel_rfl) (.inl rfl))
   clear hA HS 
   exact Rg.zf (o := ⟨some 24, Op.fieldAddr 38 (Operand.tmp 23) 7, _, _, _, _⟩) (x := .pointer (some ⟨g, off + k * 9 + 7, none⟩)) rfl rfl (by simp only [execOp]; go_simp) ⟨_, rfl, (fun h => by cases h), rfl, hI, fun _ _ _ h => h⟩
  ·intro bb w' hf hI hA
   clear hi'
   have q24 : bb.tmps[24]? = some _ := hf.tmp (k := 5) rfl (by rw [ha]; decide) (hA 5 (by kernel_rfl) (.inl rfl))
   have e := (hI.cell (p := ⟨g, off + k * 9 + 7, none⟩) zg).trans es
   clear p3 p2 es
   clear hA HS 
   exact Rg.zf (o := ⟨some 25, Op.load 2 (Operand.tmp 24), _, _, _, _⟩) (x := .int .i64 s) rfl rfl (by simp only [execOp]; go_simp) ⟨_, rfl, (fun h => by cases h), rfl, hI, fun _ _ _ h => h⟩
  ·intro bb w' hf hI hA
   clear hi'
   have q19 : bb.tmps[19]? = some _ := hf.tmp (k := 0) rfl (by rw [ha]; decide) (hA 0 (by kernel_rfl) (.inl rfl))
   have q25 : bb.tmps[25]? = some _ := hf.tmp (k := 6) rfl (by rw [ha]; decide) (hA 6 (by kernel_rfl) (.inl rfl))
   clear p3 p2 es
   refine Rg.jr (o := ⟨some 26, Op.call { callee := Callee.value (Operand.func 76), args := #[(Operand.tmp 19), (Operand.tmp 25)], argTypes := _ }, _, _, _, _⟩) rfl rfl (by clear hA HS ; simp only [execOp, resolve]; go_simp) (zj2 x s w' hxk) ?_
   rintro e w2 ⟨rfl, hb⟩
   exact ⟨_, rfl, _, rfl, (fun h => by cases h), rfl, onto hI hb, fun k9 y9 _ h => HS hb k9 y9 h⟩
  ·intro bb w' hf hI hA
   clear hi'
   have q26 : bb.tmps[26]? = some _ := hf.tmp (k := 7) rfl (by rw [ha]; decide) (hA 7 (by kernel_rfl) (.inl rfl))
   clear hA HS 
   exact Rg.zf (o := ⟨some 7, Op.assign (Operand.tmp 26), _, _, _, _⟩) (x := .int .i64 (if yc s x.k = true then x.k else 0)) rfl rfl (by simp only [execOp]; go_simp) ⟨_, rfl, (fun h => by cases h), rfl, hI, fun _ _ _ h => h⟩
theorem layS3 {a b : Act} (hf : Rg.Fr (Rg.opsOf Tryz.f48 3) a b) : b = Rg.fl (Rg.opsOf Tryz.f48 3) b 0 [some 19, some 20, some 21, some 22, some 23, some 24, some 25, some 26, some 7] a := Rg.ql _ (by kernel_rfl) hf
def FD10y (B3 B7 : Nat) (x : Dd) (o : Od) (i9 : Nat) (v : Value) (w : World) : Prop :=
 match i9 with
 | 0 => v = .agg #[.int .i64 x.k, .int .i64 x.o.id, .int .i64 x.o.p, .int .i64 x.o.d, .int .i64 x.o.n, .int .i64 x.o.f, .int .i64 x.o.e, .int .i64 x.o.c, .int .i64 x.o.s, .bool x.o.two, .int .i64 x.id, .int .i64 x.p, .int .i64 x.d, .int .i64 x.n, .int .i64 x.m, .int .i64 x.b, .int .i64 x.a]
 | 1 => v = .agg #[.int .i64 o.id, .int .i64 o.p, .int .i64 o.d, .int .i64 o.n, .int .i64 o.f, .int .i64 o.e, .int .i64 o.c, .int .i64 o.s, .bool o.two]
 | 2 => v = .pointer (some ⟨B3, 15, none⟩)
 | 3 => v = .int .i64 x.b
 | 4 => v = .pointer (some ⟨B3, 16, none⟩)
 | 5 => v = .int .i64 x.a
 | 6 => v = .bool true
 | 7 => v = .bool false
 | 8 => v = .tuple #[]
 | _ => True
theorem zdc : (Rg.opsOf Tryz.f47 10).size = 9 := by kernel_rfl
set_option maxRecDepth 20000 in
set_option maxHeartbeats 16000000 in
theorem regD10y {Q : Exit -> Act -> World -> Prop} {a : Act} {w9 : World} {B3 B7 : Nat} {x : Dd} {o : Od} (ha : a.tmps.size = 103)
  (k3 : a.tmps[3]? = some (.pointer (some ⟨B3, 0, none⟩))) (k7 : a.tmps[7]? = some (.pointer (some ⟨B7, 0, none⟩))) (p3 : PB w9 B3 #[.int .i64 x.k, .int .i64 x.o.id, .int .i64 x.o.p, .int .i64 x.o.d, .int .i64 x.o.n, .int .i64 x.o.f, .int .i64 x.o.e, .int .i64 x.o.c, .int .i64 x.o.s, .bool x.o.two, .int .i64 x.id, .int .i64 x.p, .int .i64 x.d, .int .i64 x.n, .int .i64 x.m, .int .i64 x.b, .int .i64 x.a] 40) (p7 : PB w9 B7 #[.int .i64 o.id, .int .i64 o.p, .int .i64 o.d, .int .i64 o.n, .int .i64 o.f, .int .i64 o.e, .int .i64 o.c, .int .i64 o.s, .bool o.two] 38) (ht : za3 o.two x.b x.a = true)
  (hend : ∀ b' w', Rg.Fr (Rg.opsOf Tryz.f47 10) a b' -> Below w9.heap.size w9 w' -> Q .normal b' w') :
  (Code.region 10 (Rg.opsOf Tryz.f47 10) true).wp Tryz.prog Q a w9 := by
 refine Rg.zas (by kernel_rfl) (fun w' => Below w9.heap.size w9 w') (FD10y B3 B7 x o) (fun _ => none) (by rw [ha, zdc]; kernel_rfl) (jq (Below.refl _ _)) ?_ ?_
 case refine_2 =>
  intro b' w' hf hI hA
  rw [zdc] at hA
  exact hend b' w' hf hI
 case refine_1 =>
  clear hend
  have HS : ∀ {w w' : World}, Below w.heap.size w w' -> ∀ k9 y9, FD10y B3 B7 x o k9 y9 w -> FD10y B3 B7 x o k9 y9 w' := fun hb k9 y9 h => by
   unfold FD10y at *
   split at h <;> exact h
  intro i' hi'
  rw [zdc] at hi'
  rcases (show i' = 0 ∨ i' = 1 ∨ i' = 2 ∨ i' = 3 ∨ i' = 4 ∨ i' = 5 ∨ i' = 6 ∨ i' = 7 ∨ i' = 8 by omega) with rfl | rfl | rfl | rfl | rfl | rfl | rfl | rfl | rfl
  ·intro bb w' hf hI hA
   clear hi'
   have q3 := hf.kept (s := 3) (by rw [zdc]; kernel_rfl) k3
   obtain ⟨e30, ⟨e31, e32, e33, e34, e35, e36, e37, e38, e39⟩, e3a, e3b, e3c, e3d, e3e, e3f, e3g⟩ := (p3.below hI).deed
   clear p3 p7
   clear hA HS ht
   exact Rg.zf (o := ⟨some 63, Op.load 40 (Operand.tmp 3), _, _, _, _⟩) (x := .agg #[.int .i64 x.k, .int .i64 x.o.id, .int .i64 x.o.p, .int .i64 x.o.d, .int .i64 x.o.n, .int .i64 x.o.f, .int .i64 x.o.e, .int .i64 x.o.c, .int .i64 x.o.s, .bool x.o.two, .int .i64 x.id, .int .i64 x.p, .int .i64 x.d, .int .i64 x.n, .int .i64 x.m, .int .i64 x.b, .int .i64 x.a]) rfl rfl (by simp only [execOp]; go_simp) ⟨_, rfl, (fun h => by cases h), rfl, hI, fun _ _ _ h => h⟩
  ·intro bb w' hf hI hA
   clear hi'
   have q7 := hf.kept (s := 7) (by rw [zdc]; kernel_rfl) k7
   obtain ⟨r0, r1, r2, r3, r4, r5, r6, r7, r8⟩ := (p7.below hI).nine
   clear p3 p7
   clear hA HS ht
   exact Rg.zf (o := ⟨some 64, Op.load 38 (Operand.tmp 7), _, _, _, _⟩) (x := .agg #[.int .i64 o.id, .int .i64 o.p, .int .i64 o.d, .int .i64 o.n, .int .i64 o.f, .int .i64 o.e, .int .i64 o.c, .int .i64 o.s, .bool o.two]) rfl rfl (by simp only [execOp]; go_simp) ⟨_, rfl, (fun h => by cases h), rfl, hI, fun _ _ _ h => h⟩
  ·intro bb w' hf hI hA
   clear hi'
   have q3 := hf.kept (s := 3) (by rw [zdc]; kernel_rfl) k3
   clear hA HS ht
   exact Rg.zf (o := ⟨some 65, Op.fieldAddr 40 (Operand.tmp 3) 7, _, _, _, _⟩) (x := .pointer (some ⟨B3, 15, none⟩)) rfl rfl (by simp only [execOp]; go_simp) ⟨_, rfl, (fun h => by cases h), rfl, hI, fun _ _ _ h => h⟩
  ·intro bb w' hf hI hA
   clear hi'
   have q65 : bb.tmps[65]? = some _ := hf.tmp (k := 2) rfl (by rw [ha]; decide) (hA 2 (by kernel_rfl) (.inl rfl))
   obtain ⟨e30, ⟨e31, e32, e33, e34, e35, e36, e37, e38, e39⟩, e3a, e3b, e3c, e3d, e3e, e3f, e3g⟩ := (p3.below hI).deed
   clear p3 p7
   clear hA HS ht
   exact Rg.zf (o := ⟨some 66, Op.load 2 (Operand.tmp 65), _, _, _, _⟩) (x := .int .i64 x.b) rfl rfl (by simp only [execOp]; go_simp) ⟨_, rfl, (fun h => by cases h), rfl, hI, fun _ _ _ h => h⟩
  ·intro bb w' hf hI hA
   clear hi'
   have q3 := hf.kept (s := 3) (by rw [zdc]; kernel_rfl) k3
   clear hA HS ht
   exact Rg.zf (o := ⟨some 67, Op.fieldAddr 40 (Operand.tmp 3) 8, _, _, _, _⟩) (x := .pointer (some ⟨B3, 16, none⟩)) rfl rfl (by simp only [execOp]; go_simp) ⟨_, rfl, (fun h => by cases h), rfl, hI, fun _ _ _ h => h⟩
  ·intro bb w' hf hI hA
   clear hi'
   have q67 : bb.tmps[67]? = some _ := hf.tmp (k := 4) rfl (by rw [ha]; decide) (hA 4 (by kernel_rfl) (.inl rfl))
   obtain ⟨e30, ⟨e31, e32, e33, e34, e35, e36, e37, e38, e39⟩, e3a, e3b, e3c, e3d, e3e, e3f, e3g⟩ := (p3.below hI).deed
   clear p3 p7
   clear hA HS ht
   exact Rg.zf (o := ⟨some 68, Op.load 2 (Operand.tmp 67), _, _, _, _⟩) (x := .int .i64 x.a) rfl rfl (by simp only [execOp]; go_simp) ⟨_, rfl, (fun h => by cases h), rfl, hI, fun _ _ _ h => h⟩
  ·intro bb w' hf hI hA
   clear hi'
   have q64 : bb.tmps[64]? = some _ := hf.tmp (k := 1) rfl (by rw [ha]; decide) (hA 1 (by kernel_rfl) (.inl rfl))
   have q66 : bb.tmps[66]? = some _ := hf.tmp (k := 3) rfl (by rw [ha]; decide) (hA 3 (by kernel_rfl) (.inl rfl))
   have q68 : bb.tmps[68]? = some _ := hf.tmp (k := 5) rfl (by rw [ha]; decide) (hA 5 (by kernel_rfl) (.inl rfl))
   clear p3 p7
   refine Rg.jr (o := ⟨some 69, Op.call { callee := Callee.value (Operand.func 74), args := #[(Operand.tmp 64), (Operand.tmp 66), (Operand.tmp 68)], argTypes := _ }, _, _, _, _⟩) rfl rfl (by clear hA HS ht; simp only [execOp, resolve]; go_simp) (zid o x.b x.a w' ht) ?_
   rintro e w2 ⟨rfl, hb⟩
   exact ⟨_, rfl, _, rfl, (fun h => by cases h), rfl, onto hI hb, fun k9 y9 _ h => HS hb k9 y9 h⟩
  ·intro bb w' hf hI hA
   clear hi'
   have q69 : bb.tmps[69]? = some _ := hf.tmp (k := 6) rfl (by rw [ha]; decide) (hA 6 (by kernel_rfl) (.inl rfl))
   clear hA HS ht
   exact Rg.zf (o := ⟨some 70, Op.unOp UnOp.not 4 (Operand.tmp 69), _, _, _, _⟩) (x := .bool false) rfl rfl (by simp only [execOp]; go_simp) ⟨_, rfl, (fun h => by cases h), rfl, hI, fun _ _ _ h => h⟩
  ·intro bb w' hf hI hA
   clear hi'
   have q63 : bb.tmps[63]? = some _ := hf.tmp (k := 0) rfl (by rw [ha]; decide) (hA 0 (by kernel_rfl) (.inl rfl))
   have q70 : bb.tmps[70]? = some _ := hf.tmp (k := 7) rfl (by rw [ha]; decide) (hA 7 (by kernel_rfl) (.inl rfl))
   clear p3 p7
   refine Rg.jr (o := ⟨some 71, Op.call { callee := Callee.value (Operand.func 44), args := #[(Operand.tmp 63), (Operand.tmp 70), (Operand.const (Value.int .i64 10))], argTypes := _ }, _, _, _, _⟩) rfl rfl (by clear hA HS ht; simp only [execOp, resolve]; go_simp) (zbz x 10 w') ?_
   rintro e w2 ⟨rfl, hb⟩
   exact ⟨_, rfl, _, rfl, (fun h => by cases h), rfl, onto hI hb, fun k9 y9 _ h => HS hb k9 y9 h⟩
theorem layD10y {a b : Act} (hf : Rg.Fr (Rg.opsOf Tryz.f47 10) a b) : b = Rg.fl (Rg.opsOf Tryz.f47 10) b 0 [some 63, some 64, some 65, some 66, some 67, some 68, some 69, some 70, some 71] a := Rg.ql _ (by kernel_rfl) hf
theorem sizeD10n : (Rg.opsOf Tryz.f47 10).size = 9 := by kernel_rfl
theorem layD10n {a b : Act} (hf : Rg.Fr (Rg.opsOf Tryz.f47 10) a b) : b = Rg.fl (Rg.opsOf Tryz.f47 10) b 0 [some 63, some 64, some 65, some 66, some 67, some 68, some 69, some 70, some 71] a := Rg.ql _ (by kernel_rfl) hf
def FD11y (B3 B2 : Nat) (x : Dd) (ad : Option Addr) (dcap : Nat) (ds : List Ds) (vo : Value) (i9 : Nat) (v : Value) (w : World) : Prop :=
 match i9 with
 | 0 => v = .agg #[.int .i64 x.k, .int .i64 x.o.id, .int .i64 x.o.p, .int .i64 x.o.d, .int .i64 x.o.n, .int .i64 x.o.f, .int .i64 x.o.e, .int .i64 x.o.c, .int .i64 x.o.s, .bool x.o.two, .int .i64 x.id, .int .i64 x.p, .int .i64 x.d, .int .i64 x.n, .int .i64 x.m, .int .i64 x.b, .int .i64 x.a]
 | 1 => v = .agg #[vo, .slice ad ds.length dcap]
 | 2 => v = .pointer (some ⟨B3, 14, none⟩)
 | 3 => v = .int .i64 x.m
 | 4 => v = .bool false
 | 5 => v = .tuple #[]
 | _ => True
theorem zd5 : (Rg.opsOf Tryz.f47 11).size = 6 := by kernel_rfl
set_option maxRecDepth 20000 in
set_option maxHeartbeats 16000000 in
theorem regD11y {Q : Exit -> Act -> World -> Prop} {a : Act} {w9 : World} {B3 B2 : Nat} {x : Dd} {ad : Option Addr} {dcap : Nat} {ds : List Ds} {vo : Value} (ha : a.tmps.size = 103)
  (k3 : a.tmps[3]? = some (.pointer (some ⟨B3, 0, none⟩))) (k2 : a.tmps[2]? = some (.pointer (some ⟨B2, 0, none⟩))) (p3 : PB w9 B3 #[.int .i64 x.k, .int .i64 x.o.id, .int .i64 x.o.p, .int .i64 x.o.d, .int .i64 x.o.n, .int .i64 x.o.f, .int .i64 x.o.e, .int .i64 x.o.c, .int .i64 x.o.s, .bool x.o.two, .int .i64 x.id, .int .i64 x.p, .int .i64 x.d, .int .i64 x.n, .int .i64 x.m, .int .i64 x.b, .int .i64 x.a] 40) (p2 : PB w9 B2 #[vo, .slice ad ds.length dcap] 27) (hd : VRw 5 jy w9 (.slice ad ds.length dcap) ds) (hm : ds.length <= 1048576) (ho1 : ∃ a n c, vo = .slice a n c) (ht : zay ds x.m = false)
  (hend : ∀ b' w', Rg.Fr (Rg.opsOf Tryz.f47 11) a b' -> Below w9.heap.size w9 w' -> Q .normal b' w') :
  (Code.region 11 (Rg.opsOf Tryz.f47 11) true).wp Tryz.prog Q a w9 := by
 refine Rg.zas (by kernel_rfl) (fun w' => Below w9.heap.size w9 w') (FD11y B3 B2 x ad dcap ds vo) (fun _ => none) (by rw [ha, zd5]; kernel_rfl) (jq (Below.refl _ _)) ?_ ?_
 case refine_2 =>
  intro b' w' hf hI hA
  rw [zd5] at hA
  exact hend b' w' hf hI
 case refine_1 =>
  clear hend
  have HS : ∀ {w w' : World}, Below w.heap.size w w' -> ∀ k9 y9, FD11y B3 B2 x ad dcap ds vo k9 y9 w -> FD11y B3 B2 x ad dcap ds vo k9 y9 w' := fun hb k9 y9 h => by
   unfold FD11y at *
   split at h <;> exact h
  intro i' hi'
  rw [zd5] at hi'
  rcases (show i' = 0 ∨ i' = 1 ∨ i' = 2 ∨ i' = 3 ∨ i' = 4 ∨ i' = 5 by omega) with rfl | rfl | rfl | rfl | rfl | rfl
  ·intro bb w' hf hI hA
   clear hi'
   have q3 := hf.kept (s := 3) (by rw [zd5]; kernel_rfl) k3
   obtain ⟨e30, ⟨e31, e32, e33, e34, e35, e36, e37, e38, e39⟩, e3a, e3b, e3c, e3d, e3e, e3f, e3g⟩ := (p3.below hI).deed
   clear p3 p2 hd
   clear hA HS ht
   exact Rg.zf (o := ⟨some 72, Op.load 40 (Operand.tmp 3), _, _, _, _⟩) (x := .agg #[.int .i64 x.k, .int .i64 x.o.id, .int .i64 x.o.p, .int .i64 x.o.d, .int .i64 x.o.n, .int .i64 x.o.f, .int .i64 x.o.e, .int .i64 x.o.c, .int .i64 x.o.s, .bool x.o.two, .int .i64 x.id, .int .i64 x.p, .int .i64 x.d, .int .i64 x.n, .int .i64 x.m, .int .i64 x.b, .int .i64 x.a]) rfl rfl (by simp only [execOp]; go_simp) ⟨_, rfl, (fun h => by cases h), rfl, hI, fun _ _ _ h => h⟩
  ·intro bb w' hf hI hA
   clear hi'
   have q2 := hf.kept (s := 2) (by rw [zd5]; kernel_rfl) k2
   have e0 : w'.cell? ⟨B2, 0, none⟩ = some vo := (p2.below hI).cell 0
   have e1 : w'.cell? ⟨B2, 1, none⟩ = some (.slice ad ds.length dcap) := (p2.below hI).cell 1
   clear p3 p2 hd
   clear hA HS ht
   exact Rg.zf (o := ⟨some 73, Op.load 27 (Operand.tmp 2), _, _, _, _⟩) (x := .agg #[vo, .slice ad ds.length dcap]) rfl rfl (by simp only [execOp]; go_simp) ⟨_, rfl, (fun h => by cases h), rfl, hI, fun _ _ _ h => h⟩
  ·intro bb w' hf hI hA
   clear hi'
   have q3 := hf.kept (s := 3) (by rw [zd5]; kernel_rfl) k3
   clear hA HS ht
   exact Rg.zf (o := ⟨some 74, Op.fieldAddr 40 (Operand.tmp 3) 6, _, _, _, _⟩) (x := .pointer (some ⟨B3, 14, none⟩)) rfl rfl (by simp only [execOp]; go_simp) ⟨_, rfl, (fun h => by cases h), rfl, hI, fun _ _ _ h => h⟩
  ·intro bb w' hf hI hA
   clear hi'
   have q74 : bb.tmps[74]? = some _ := hf.tmp (k := 2) rfl (by rw [ha]; decide) (hA 2 (by kernel_rfl) (.inl rfl))
   obtain ⟨e30, ⟨e31, e32, e33, e34, e35, e36, e37, e38, e39⟩, e3a, e3b, e3c, e3d, e3e, e3f, e3g⟩ := (p3.below hI).deed
   clear p3 p2 hd
   clear hA HS ht
   exact Rg.zf (o := ⟨some 75, Op.load 2 (Operand.tmp 74), _, _, _, _⟩) (x := .int .i64 x.m) rfl rfl (by simp only [execOp]; go_simp) ⟨_, rfl, (fun h => by cases h), rfl, hI, fun _ _ _ h => h⟩
  ·intro bb w' hf hI hA
   clear hi'
   have q73 : bb.tmps[73]? = some _ := hf.tmp (k := 1) rfl (by rw [ha]; decide) (hA 1 (by kernel_rfl) (.inl rfl))
   have q75 : bb.tmps[75]? = some _ := hf.tmp (k := 3) rfl (by rw [ha]; decide) (hA 3 (by kernel_rfl) (.inl rfl))
   have hd2 := hd.below hI
   clear p3 p2 hd
   refine Rg.jr (o := ⟨some 76, Op.call { callee := Callee.value (Operand.func 75), args := #[(Operand.tmp 73), (Operand.tmp 75)], argTypes := _ }, _, _, _, _⟩) rfl rfl (by clear hA HS ht; simp only [execOp, resolve]; go_simp) (zg9 vo ad dcap ds x.m w' hd2 hm ho1 ht) ?_
   rintro e w2 ⟨rfl, hb⟩
   exact ⟨_, rfl, _, rfl, (fun h => by cases h), rfl, onto hI hb, fun k9 y9 _ h => HS hb k9 y9 h⟩
  ·intro bb w' hf hI hA
   clear hi'
   have q72 : bb.tmps[72]? = some _ := hf.tmp (k := 0) rfl (by rw [ha]; decide) (hA 0 (by kernel_rfl) (.inl rfl))
   have q76 : bb.tmps[76]? = some _ := hf.tmp (k := 4) rfl (by rw [ha]; decide) (hA 4 (by kernel_rfl) (.inl rfl))
   clear p3 p2 hd
   refine Rg.jr (o := ⟨some 77, Op.call { callee := Callee.value (Operand.func 44), args := #[(Operand.tmp 72), (Operand.tmp 76), (Operand.const (Value.int .i64 11))], argTypes := _ }, _, _, _, _⟩) rfl rfl (by clear hA HS ht; simp only [execOp, resolve]; go_simp) (zbz x 11 w') ?_
   rintro e w2 ⟨rfl, hb⟩
   exact ⟨_, rfl, _, rfl, (fun h => by cases h), rfl, onto hI hb, fun k9 y9 _ h => HS hb k9 y9 h⟩
theorem layD11y {a b : Act} (hf : Rg.Fr (Rg.opsOf Tryz.f47 11) a b) : b = Rg.fl (Rg.opsOf Tryz.f47 11) b 0 [some 72, some 73, some 74, some 75, some 76, some 77] a := Rg.ql _ (by kernel_rfl) hf
theorem sizeD11n : (Rg.opsOf Tryz.f47 11).size = 6 := by kernel_rfl
theorem layD11n {a b : Act} (hf : Rg.Fr (Rg.opsOf Tryz.f47 11) a b) : b = Rg.fl (Rg.opsOf Tryz.f47 11) b 0 [some 72, some 73, some 74, some 75, some 76, some 77] a := Rg.ql _ (by kernel_rfl) hf
end Go.Proofs.YtjlpfpigggdemaaGreatDoor
namespace Go.Proofs.YtjlpfpigggdemaaGreatDoor
open Go.RowKit Va Uo
set_option linter.all false
theorem zbi : (Tryz.prog.info? 38).map (fun i => (i.zero, i.size, i.bytes)) = some (some (.agg #[.int .i64 0, .int .i64 0, .int .i64 0, .int .i64 0, .int .i64 0, .int .i64 0, .int .i64 0, .int .i64 0, .bool false]), 9, 72) := by kernel_rfl
end Go.Proofs.YtjlpfpigggdemaaGreatDoor
namespace Go.Proofs.YtjlpfpigggdemaaGreatDoor
open Go.RowKit Va Uo
set_option linter.all false
theorem zb6 : (Tryz.prog.info? 35).map (fun i => (i.zero, i.size, i.bytes)) = some (some (.agg #[.int .i64 0, .int .i64 0, .int .i64 0, .int .i64 0, .int .i64 0]), 5, 40) := by kernel_rfl
def cmds (x : Int) (k : Nat) : Value := match k with | 0 => .int .i64 (x + 0) | 1 => .int .i64 (x + 1) | 2 => .int .i64 (x + 2) | 3 => .int .i64 (x + 3) | _ => .int .i64 (x + 4)
end Go.Proofs.YtjlpfpigggdemaaGreatDoor
