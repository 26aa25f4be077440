/-
 Merged: U44.
-/
import Derived.Test.YtjlpfpigggdemaaGreatDoorMi13
import Derived.Test.YtjlpfpigggdemaaGreatDoorMi10
namespace Go.Proofs.YtjlpfpigggdemaaGreatDoor
set_option maxRecDepth 8000
set_option maxHeartbeats 4000000
open Go.RowKit Va Uo
set_option linter.all false
theorem zbo {P : Program} {b : Act} {w : World} {o : Oper} (ty : TypeId) (x : Operand) (ad : Addr) (v : Value) (ho : o.op = .load ty x) (hx : b.eval x = .pointer (some ad)) (hl : (loadVar ty ad).run P w = .ok v w) : (execOp b.eval o).run P w = .ok (.value v) w := by
 unfold execOp
 simp only [ho, hx, Instr.loadAt, Instr.sureAddr, Sem.run_bind, Sem.run_pure, Result.andThen_ok, hl]
theorem zgz (ao : Option Addr) (n cap : Nat) (ad : Option Addr) (m dcap : Nat) (os : List Od) (ds : List Ds) (w : World) (ho : VRw 9 jd w (.slice ao n cap) os) (hd : VRw 5 jy w (.slice ad m dcap) ds) (hn : os.length <= 1048576) (hm : ds.length <= 1048576) {t : Bool} (ht : ji os ds = t) :
  Calls Tryz.prog 14 #[.agg #[.slice ao n cap, .slice ad m dcap]] w fun e w' => e = .returned (.bool t) /\ Below w.heap.size w w' := ht ▸ zic ao n cap ad m dcap os ds w ho hd hn hm
theorem zg7 (x : Dd) (w : World) {t : Bool} (ht : ddB x = t) : Calls Tryz.prog 45 #[.agg #[.int .i64 x.k, .int .i64 x.o.id, .int .i64 x.o.p, .int .i64 x.o.d, .int .i64 x.o.n, .int .i64 x.o.f, .int .i64 x.o.e, .int .i64 x.o.c, .int .i64 x.o.s, .bool x.o.two, .int .i64 x.id, .int .i64 x.p, .int .i64 x.d, .int .i64 x.n, .int .i64 x.m, .int .i64 x.b, .int .i64 x.a]] w fun e w' => e = .returned (.bool t) /\ Below w.heap.size w w' := ht ▸ zjw x w
def FB1y (B3 B2 : Nat) (x : Dd) (ao ad : Option Addr) (n cap m dcap : Nat) (os : List Od) (ds : List Ds) (i9 : Nat) (v : Value) (w : World) : Prop :=
 match i9 with
 | 0 => v = .agg #[.int .i64 x.k, .int .i64 x.o.id, .int .i64 x.o.p, .int .i64 x.o.d, .int .i64 x.o.n, .int .i64 x.o.f, .int .i64 x.o.e, .int .i64 x.o.c, .int .i64 x.o.s, .bool x.o.two, .int .i64 x.id, .int .i64 x.p, .int .i64 x.d, .int .i64 x.n, .int .i64 x.m, .int .i64 x.b, .int .i64 x.a]
 | 1 => v = .agg #[.slice ao n cap, .slice ad m dcap]
 | 2 => v = .bool true
 | 3 => v = .bool false
 | 4 => v = .tuple #[]
 | _ => True
theorem zey : (Rg.opsOf Tryz.f28 1).size = 5 := by kernel_rfl
set_option maxRecDepth 20000 in
set_option maxHeartbeats 16000000 in
theorem zc4 {Q : Exit -> Act -> World -> Prop} {a : Act} {w9 : World} {B3 B2 : Nat} {x : Dd} {ao ad : Option Addr} {n cap m dcap : Nat} {os : List Od} {ds : List Ds} (ha : a.tmps.size = 33)
  (k3 : a.tmps[3]? = some (.pointer (some ⟨B3, 0, none⟩))) (k2 : a.tmps[2]? = some (.pointer (some ⟨B2, 0, none⟩))) (p3 : PB w9 B3 #[.int .i64 x.k, .int .i64 x.o.id, .int .i64 x.o.p, .int .i64 x.o.d, .int .i64 x.o.n, .int .i64 x.o.f, .int .i64 x.o.e, .int .i64 x.o.c, .int .i64 x.o.s, .bool x.o.two, .int .i64 x.id, .int .i64 x.p, .int .i64 x.d, .int .i64 x.n, .int .i64 x.m, .int .i64 x.b, .int .i64 x.a] 40) (p2 : PB w9 B2 #[.slice ao n cap, .slice ad m dcap] 27) (ho : VRw 9 jd w9 (.slice ao n cap) os) (hd : VRw 5 jy w9 (.slice ad m dcap) ds) (hn : os.length <= 1048576) (hm : ds.length <= 1048576) (ht : ji os ds = true)
  (hend : ∀ b' w', Rg.Fr (Rg.opsOf Tryz.f28 1) a b' -> Below w9.heap.size w9 w' -> Q .normal b' w') :
  (Code.region 1 (Rg.opsOf Tryz.f28 1) true).wp Tryz.prog Q a w9 := by
 refine Rg.zas (by kernel_rfl) (fun w' => Below w9.heap.size w9 w') (FB1y B3 B2 x ao ad n cap m dcap os ds) (fun _ => none) (by rw [ha, zey]; kernel_rfl) (jq (Below.refl _ _)) ?_ ?_
 case refine_2 =>
  intro b' w' hf hI hA
  rw [zey] at hA
  exact hend b' w' hf hI
 case refine_1 =>
  clear hend
  have HS : ∀ {w w' : World}, Below w.heap.size w w' -> ∀ k9 y9, FB1y B3 B2 x ao ad n cap m dcap os ds k9 y9 w -> FB1y B3 B2 x ao ad n cap m dcap os ds k9 y9 w' := fun hb k9 y9 h => by
   unfold FB1y at *
   split at h <;> exact h
  intro i' hi'
  rw [zey] at hi'
  rcases (show i' = 0 ∨ i' = 1 ∨ i' = 2 ∨ i' = 3 ∨ i' = 4 by omega) with rfl | rfl | rfl | rfl | rfl
  ·intro bb w' hf hI hA
   clear hi'
   have q3 := hf.kept (s := 3) (by rw [zey]; kernel_rfl) k3
   have hl := run_loadVar_row (P := Tryz.prog) w' B3 _ 40 #[.int .i64 x.k, .int .i64 x.o.id, .int .i64 x.o.p, .int .i64 x.o.d, .int .i64 x.o.n, .int .i64 x.o.f, .int .i64 x.o.e, .int .i64 x.o.c, .int .i64 x.o.s, .bool x.o.two, .int .i64 x.id, .int .i64 x.p, .int .i64 x.d, .int .i64 x.n, .int .i64 x.m, .int .i64 x.b, .int .i64 x.a] (0, 0) _ (p3.below hI) Tryz.underlying40 rfl (by kernel_rfl)
   clear p3 p2 ho hd
   clear hA HS ht
   exact Rg.zf (o := ⟨some 5, Op.load 40 (Operand.tmp 3), _, _, _, _⟩) (x := .agg #[.int .i64 x.k, .int .i64 x.o.id, .int .i64 x.o.p, .int .i64 x.o.d, .int .i64 x.o.n, .int .i64 x.o.f, .int .i64 x.o.e, .int .i64 x.o.c, .int .i64 x.o.s, .bool x.o.two, .int .i64 x.id, .int .i64 x.p, .int .i64 x.d, .int .i64 x.n, .int .i64 x.m, .int .i64 x.b, .int .i64 x.a]) rfl rfl (zbo 40 (.tmp 3) ⟨B3, 0, none⟩ _ rfl (by simp [Act.eval, q3]) hl) ⟨_, rfl, (fun h => by cases h), rfl, hI, fun _ _ _ h => h⟩
  ·intro bb w' hf hI hA
   clear hi'
   have q2 := hf.kept (s := 2) (by rw [zey]; kernel_rfl) k2
   have e0 : w'.cell? ⟨B2, 0, none⟩ = some (.slice ao n cap) := (p2.below hI).cell 0
   have e1 : w'.cell? ⟨B2, 1, none⟩ = some (.slice ad m dcap) := (p2.below hI).cell 1
   clear p3 p2 ho hd
   clear hA HS ht
   exact Rg.zf (o := ⟨some 6, Op.load 27 (Operand.tmp 2), _, _, _, _⟩) (x := .agg #[.slice ao n cap, .slice ad m dcap]) rfl rfl (by simp only [execOp]; go_simp) ⟨_, rfl, (fun h => by cases h), rfl, hI, fun _ _ _ h => h⟩
  ·intro bb w' hf hI hA
   clear hi'
   have q6 : bb.tmps[6]? = some _ := hf.tmp (k := 1) rfl (by rw [ha]; decide) (hA 1 (by kernel_rfl) (.inl rfl))
   have ho2 := ho.below hI
   have hd2 := hd.below hI
   clear p3 p2 ho hd
   refine Rg.jr (o := ⟨some 7, Op.call { callee := Callee.value (Operand.func 14), args := #[(Operand.tmp 6)], argTypes := _ }, _, _, _, _⟩) rfl rfl (by clear hA HS ht; simp only [execOp, resolve]; go_simp) (zgz ao n cap ad m dcap os ds w' ho2 hd2 hn hm ht) ?_
   rintro e w2 ⟨rfl, hb⟩
   exact ⟨_, rfl, _, rfl, (fun h => by cases h), rfl, onto hI hb, fun k9 y9 _ h => HS hb k9 y9 h⟩
  ·intro bb w' hf hI hA
   clear hi'
   have q7 : bb.tmps[7]? = some _ := hf.tmp (k := 2) rfl (by rw [ha]; decide) (hA 2 (by kernel_rfl) (.inl rfl))
   clear p3 p2 ho hd
   clear hA HS ht
   exact Rg.zf (o := ⟨some 8, Op.unOp UnOp.not 4 (Operand.tmp 7), _, _, _, _⟩) (x := .bool false) rfl rfl (by simp only [execOp]; go_simp) ⟨_, rfl, (fun h => by cases h), rfl, hI, fun _ _ _ h => h⟩
  ·intro bb w' hf hI hA
   clear hi'
   have q5 : bb.tmps[5]? = some _ := hf.tmp (k := 0) rfl (by rw [ha]; decide) (hA 0 (by kernel_rfl) (.inl rfl))
   have q8 : bb.tmps[8]? = some _ := hf.tmp (k := 3) rfl (by rw [ha]; decide) (hA 3 (by kernel_rfl) (.inl rfl))
   clear p3 p2 ho hd
   refine Rg.jr (o := ⟨some 9, Op.call { callee := Callee.value (Operand.func 44), args := #[(Operand.tmp 5), (Operand.tmp 8), (Operand.const (Value.int .i64 1))], argTypes := _ }, _, _, _, _⟩) rfl rfl (by clear hA HS ht; simp only [execOp, resolve]; go_simp) (zbz x 1 w') ?_
   rintro e w2 ⟨rfl, hb⟩
   exact ⟨_, rfl, _, rfl, (fun h => by cases h), rfl, onto hI hb, fun k9 y9 _ h => HS hb k9 y9 h⟩
theorem zcv {a b : Act} (hf : Rg.Fr (Rg.opsOf Tryz.f28 1) a b) : b = Rg.fl (Rg.opsOf Tryz.f28 1) b 0 [some 5, some 6, some 7, some 8, some 9] a := Rg.ql _ (by kernel_rfl) hf
def FB1d (B3 B2 : Nat) (x : Dd) (ao ad : Option Addr) (n cap m dcap : Nat) (os : List Od) (ds : List Ds) (i9 : Nat) (v : Value) (w : World) : Prop :=
 match i9 with
 | 0 => v = .agg #[.int .i64 x.k, .int .i64 x.o.id, .int .i64 x.o.p, .int .i64 x.o.d, .int .i64 x.o.n, .int .i64 x.o.f, .int .i64 x.o.e, .int .i64 x.o.c, .int .i64 x.o.s, .bool x.o.two, .int .i64 x.id, .int .i64 x.p, .int .i64 x.d, .int .i64 x.n, .int .i64 x.m, .int .i64 x.b, .int .i64 x.a]
 | 1 => v = .agg #[.slice ao n cap, .slice ad m dcap]
 | 2 => v = .bool false
 | 3 => v = .bool true
 | 4 => False
 | _ => True
theorem zef : (Rg.opsOf Tryz.f28 1).size = 5 := by kernel_rfl
set_option maxRecDepth 20000 in
set_option maxHeartbeats 16000000 in
theorem regB1d {Q : Exit -> Act -> World -> Prop} {a : Act} {w9 : World} {B3 B2 : Nat} {x : Dd} {ao ad : Option Addr} {n cap m dcap : Nat} {os : List Od} {ds : List Ds} (ha : a.tmps.size = 33)
  (k3 : a.tmps[3]? = some (.pointer (some ⟨B3, 0, none⟩))) (k2 : a.tmps[2]? = some (.pointer (some ⟨B2, 0, none⟩))) (p3 : PB w9 B3 #[.int .i64 x.k, .int .i64 x.o.id, .int .i64 x.o.p, .int .i64 x.o.d, .int .i64 x.o.n, .int .i64 x.o.f, .int .i64 x.o.e, .int .i64 x.o.c, .int .i64 x.o.s, .bool x.o.two, .int .i64 x.id, .int .i64 x.p, .int .i64 x.d, .int .i64 x.n, .int .i64 x.m, .int .i64 x.b, .int .i64 x.a] 40) (p2 : PB w9 B2 #[.slice ao n cap, .slice ad m dcap] 27) (ho : VRw 9 jd w9 (.slice ao n cap) os) (hd : VRw 5 jy w9 (.slice ad m dcap) ds) (hn : os.length <= 1048576) (hm : ds.length <= 1048576) (ht : ji os ds = false) (hdie : ∀ b' w', Rg.Fr (Rg.opsOf Tryz.f28 1) a b' -> Below w9.heap.size w9 w' -> Q (.panic [{ v := kz x.k 1, recovered := false }]) b' w') :
  (Code.region 1 (Rg.opsOf Tryz.f28 1) true).wp Tryz.prog Q a w9 := by
 refine Rg.zas (by kernel_rfl) (fun w' => Below w9.heap.size w9 w') (FB1d B3 B2 x ao ad n cap m dcap os ds) (fun _ => none) (by rw [ha, zef]; kernel_rfl) (jq (Below.refl _ _)) ?_ ?_
 case refine_2 =>
  intro b' w' hf hI hA
  rw [zef] at hA
  exact (hA 4 (by decide) rfl).elim
 case refine_1 =>
  have HS : ∀ {w w' : World}, Below w.heap.size w w' -> ∀ k9 y9, FB1d B3 B2 x ao ad n cap m dcap os ds k9 y9 w -> FB1d B3 B2 x ao ad n cap m dcap os ds k9 y9 w' := fun hb k9 y9 h => by
   unfold FB1d at *
   split at h <;> exact h
  intro i' hi'
  rw [zef] at hi'
  rcases (show i' = 0 ∨ i' = 1 ∨ i' = 2 ∨ i' = 3 ∨ i' = 4 by omega) with rfl | rfl | rfl | rfl | rfl
  ·intro bb w' hf hI hA
   clear hi'
   have q3 := hf.kept (s := 3) (by rw [zef]; kernel_rfl) k3
   have hl := run_loadVar_row (P := Tryz.prog) w' B3 _ 40 #[.int .i64 x.k, .int .i64 x.o.id, .int .i64 x.o.p, .int .i64 x.o.d, .int .i64 x.o.n, .int .i64 x.o.f, .int .i64 x.o.e, .int .i64 x.o.c, .int .i64 x.o.s, .bool x.o.two, .int .i64 x.id, .int .i64 x.p, .int .i64 x.d, .int .i64 x.n, .int .i64 x.m, .int .i64 x.b, .int .i64 x.a] (0, 0) _ (p3.below hI) Tryz.underlying40 rfl (by kernel_rfl)
   clear p3 p2 ho hd
   clear hA HS ht hdie
   exact Rg.zf (o := ⟨some 5, Op.load 40 (Operand.tmp 3), _, _, _, _⟩) (x := .agg #[.int .i64 x.k, .int .i64 x.o.id, .int .i64 x.o.p, .int .i64 x.o.d, .int .i64 x.o.n, .int .i64 x.o.f, .int .i64 x.o.e, .int .i64 x.o.c, .int .i64 x.o.s, .bool x.o.two, .int .i64 x.id, .int .i64 x.p, .int .i64 x.d, .int .i64 x.n, .int .i64 x.m, .int .i64 x.b, .int .i64 x.a]) rfl rfl (zbo 40 (.tmp 3) ⟨B3, 0, none⟩ _ rfl (by simp [Act.eval, q3]) hl) ⟨_, rfl, (fun h => by cases h), rfl, hI, fun _ _ _ h => h⟩
  ·intro bb w' hf hI hA
   clear hi'
   have q2 := hf.kept (s := 2) (by rw [zef]; kernel_rfl) k2
   have e0 : w'.cell? ⟨B2, 0, none⟩ = some (.slice ao n cap) := (p2.below hI).cell 0
   have e1 : w'.cell? ⟨B2, 1, none⟩ = some (.slice ad m dcap) := (p2.below hI).cell 1
   clear p3 p2 ho hd
   clear hA HS ht hdie
   exact Rg.zf (o := ⟨some 6, Op.load 27 (Operand.tmp 2), _, _, _, _⟩) (x := .agg #[.slice ao n cap, .slice ad m dcap]) rfl rfl (by simp only [execOp]; go_simp) ⟨_, rfl, (fun h => by cases h), rfl, hI, fun _ _ _ h => h⟩
  ·intro bb w' hf hI hA
   clear hi'
   have q6 : bb.tmps[6]? = some _ := hf.tmp (k := 1) rfl (by rw [ha]; decide) (hA 1 (by kernel_rfl) (.inl rfl))
   have ho2 := ho.below hI
   have hd2 := hd.below hI
   clear p3 p2 ho hd
   refine Rg.jr (o := ⟨some 7, Op.call { callee := Callee.value (Operand.func 14), args := #[(Operand.tmp 6)], argTypes := _ }, _, _, _, _⟩) rfl rfl (by clear hA HS ht hdie; simp only [execOp, resolve]; go_simp) (zgz ao n cap ad m dcap os ds w' ho2 hd2 hn hm ht) ?_
   rintro e w2 ⟨rfl, hb⟩
   exact ⟨_, rfl, _, rfl, (fun h => by cases h), rfl, onto hI hb, fun k9 y9 _ h => HS hb k9 y9 h⟩
  ·intro bb w' hf hI hA
   clear hi'
   have q7 : bb.tmps[7]? = some _ := hf.tmp (k := 2) rfl (by rw [ha]; decide) (hA 2 (by kernel_rfl) (.inl rfl))
   clear p3 p2 ho hd
   clear hA HS ht hdie
   exact Rg.zf (o := ⟨some 8, Op.unOp UnOp.not 4 (Operand.tmp 7), _, _, _, _⟩) (x := .bool true) rfl rfl (by simp only [execOp]; go_simp) ⟨_, rfl, (fun h => by cases h), rfl, hI, fun _ _ _ h => h⟩
  ·intro bb w' hf hI hA
   clear hi'
   have q5 : bb.tmps[5]? = some _ := hf.tmp (k := 0) rfl (by rw [ha]; decide) (hA 0 (by kernel_rfl) (.inl rfl))
   have q8 : bb.tmps[8]? = some _ := hf.tmp (k := 3) rfl (by rw [ha]; decide) (hA 3 (by kernel_rfl) (.inl rfl))
   refine Rg.zdk (o := ⟨some 9, Op.call { callee := Callee.value (Operand.func 44), args := #[(Operand.tmp 5), (Operand.tmp 8), (Operand.const (Value.int .i64 1))], argTypes := _ }, _, _, _, _⟩) rfl rfl (by clear hA HS hdie; simp only [execOp, resolve]; go_simp) (zce x 1 w') ?_
   rintro e w2 ⟨rfl, hb⟩
   exact ⟨_, rfl, hdie _ _ hf (onto hI hb)⟩
def FB2y (B3 : Nat) (x : Dd) (i9 : Nat) (v : Value) (w : World) : Prop :=
 match i9 with
 | 0 => v = .agg #[.int .i64 x.k, .int .i64 x.o.id, .int .i64 x.o.p, .int .i64 x.o.d, .int .i64 x.o.n, .int .i64 x.o.f, .int .i64 x.o.e, .int .i64 x.o.c, .int .i64 x.o.s, .bool x.o.two, .int .i64 x.id, .int .i64 x.p, .int .i64 x.d, .int .i64 x.n, .int .i64 x.m, .int .i64 x.b, .int .i64 x.a]
 | 1 => v = .agg #[.int .i64 x.k, .int .i64 x.o.id, .int .i64 x.o.p, .int .i64 x.o.d, .int .i64 x.o.n, .int .i64 x.o.f, .int .i64 x.o.e, .int .i64 x.o.c, .int .i64 x.o.s, .bool x.o.two, .int .i64 x.id, .int .i64 x.p, .int .i64 x.d, .int .i64 x.n, .int .i64 x.m, .int .i64 x.b, .int .i64 x.a]
 | 2 => v = .bool true
 | 3 => v = .bool false
 | 4 => v = .tuple #[]
 | _ => True
theorem zeg : (Rg.opsOf Tryz.f28 2).size = 5 := by kernel_rfl
set_option maxRecDepth 20000 in
set_option maxHeartbeats 16000000 in
theorem zdp {Q : Exit -> Act -> World -> Prop} {a : Act} {w9 : World} {B3 : Nat} {x : Dd} (ha : a.tmps.size = 33)
  (k3 : a.tmps[3]? = some (.pointer (some ⟨B3, 0, none⟩))) (p3 : PB w9 B3 #[.int .i64 x.k, .int .i64 x.o.id, .int .i64 x.o.p, .int .i64 x.o.d, .int .i64 x.o.n, .int .i64 x.o.f, .int .i64 x.o.e, .int .i64 x.o.c, .int .i64 x.o.s, .bool x.o.two, .int .i64 x.id, .int .i64 x.p, .int .i64 x.d, .int .i64 x.n, .int .i64 x.m, .int .i64 x.b, .int .i64 x.a] 40) (ht : ddB x = true)
  (hend : ∀ b' w', Rg.Fr (Rg.opsOf Tryz.f28 2) a b' -> Below w9.heap.size w9 w' -> Q .normal b' w') :
  (Code.region 2 (Rg.opsOf Tryz.f28 2) true).wp Tryz.prog Q a w9 := by
 refine Rg.zas (by kernel_rfl) (fun w' => Below w9.heap.size w9 w') (FB2y B3 x) (fun _ => none) (by rw [ha, zeg]; kernel_rfl) (jq (Below.refl _ _)) ?_ ?_
 case refine_2 =>
  intro b' w' hf hI hA
  rw [zeg] at hA
  exact hend b' w' hf hI
 case refine_1 =>
  clear hend
  have HS : ∀ {w w' : World}, Below w.heap.size w w' -> ∀ k9 y9, FB2y B3 x k9 y9 w -> FB2y B3 x k9 y9 w' := fun hb k9 y9 h => by
   unfold FB2y at *
   split at h <;> exact h
  intro i' hi'
  rw [zeg] at hi'
  rcases (show i' = 0 ∨ i' = 1 ∨ i' = 2 ∨ i' = 3 ∨ i' = 4 by omega) with rfl | rfl | rfl | rfl | rfl
  ·intro bb w' hf hI hA
   clear hi'
   have q3 := hf.kept (s := 3) (by rw [zeg]; kernel_rfl) k3
   have hl := run_loadVar_row (P := Tryz.prog) w' B3 _ 40 #[.int .i64 x.k, .int .i64 x.o.id, .int .i64 x.o.p, .int .i64 x.o.d, .int .i64 x.o.n, .int .i64 x.o.f, .int .i64 x.o.e, .int .i64 x.o.c, .int .i64 x.o.s, .bool x.o.two, .int .i64 x.id, .int .i64 x.p, .int .i64 x.d, .int .i64 x.n, .int .i64 x.m, .int .i64 x.b, .int .i64 x.a] (0, 0) _ (p3.below hI) Tryz.underlying40 rfl (by kernel_rfl)
   clear p3
   clear hA HS ht
   exact Rg.zf (o := ⟨some 10, Op.load 40 (Operand.tmp 3), _, _, _, _⟩) (x := .agg #[.int .i64 x.k, .int .i64 x.o.id, .int .i64 x.o.p, .int .i64 x.o.d, .int .i64 x.o.n, .int .i64 x.o.f, .int .i64 x.o.e, .int .i64 x.o.c, .int .i64 x.o.s, .bool x.o.two, .int .i64 x.id, .int .i64 x.p, .int .i64 x.d, .int .i64 x.n, .int .i64 x.m, .int .i64 x.b, .int .i64 x.a]) rfl rfl (zbo 40 (.tmp 3) ⟨B3, 0, none⟩ _ rfl (by simp [Act.eval, q3]) hl) ⟨_, rfl, (fun h => by cases h), rfl, hI, fun _ _ _ h => h⟩
  ·intro bb w' hf hI hA
   clear hi'
   have q3 := hf.kept (s := 3) (by rw [zeg]; kernel_rfl) k3
   have hl := run_loadVar_row (P := Tryz.prog) w' B3 _ 40 #[.int .i64 x.k, .int .i64 x.o.id, .int .i64 x.o.p, .int .i64 x.o.d, .int .i64 x.o.n, .int .i64 x.o.f, .int .i64 x.o.e, .int .i64 x.o.c, .int .i64 x.o.s, .bool x.o.two, .int .i64 x.id, .int .i64 x.p, .int .i64 x.d, .int .i64 x.n, .int .i64 x.m, .int .i64 x.b, .int .i64 x.a] (0, 0) _ (p3.below hI) Tryz.underlying40 rfl (by kernel_rfl)
   clear p3
   clear hA HS ht
   exact Rg.zf (o := ⟨some 11, Op.load 40 (Operand.tmp 3), _, _, _, _⟩) (x := .agg #[.int .i64 x.k, .int .i64 x.o.id, .int .i64 x.o.p, .int .i64 x.o.d, .int .i64 x.o.n, .int .i64 x.o.f, .int .i64 x.o.e, .int .i64 x.o.c, .int .i64 x.o.s, .bool x.o.two, .int .i64 x.id, .int .i64 x.p, .int .i64 x.d, .int .i64 x.n, .int .i64 x.m, .int .i64 x.b, .int .i64 x.a]) rfl rfl (zbo 40 (.tmp 3) ⟨B3, 0, none⟩ _ rfl (by simp [Act.eval, q3]) hl) ⟨_, rfl, (fun h => by cases h), rfl, hI, fun _ _ _ h => h⟩
  ·intro bb w' hf hI hA
   clear hi'
   have q11 : bb.tmps[11]? = some _ := hf.tmp (k := 1) rfl (by rw [ha]; decide) (hA 1 (by kernel_rfl) (.inl rfl))
   clear p3
   refine Rg.jr (o := ⟨some 12, Op.call { callee := Callee.value (Operand.func 45), args := #[(Operand.tmp 11)], argTypes := _ }, _, _, _, _⟩) rfl rfl (by clear hA HS ht; simp only [execOp, resolve]; go_simp) (zg7 x w' ht) ?_
   rintro e w2 ⟨rfl, hb⟩
   exact ⟨_, rfl, _, rfl, (fun h => by cases h), rfl, onto hI hb, fun k9 y9 _ h => HS hb k9 y9 h⟩
  ·intro bb w' hf hI hA
   clear hi'
   have q12 : bb.tmps[12]? = some _ := hf.tmp (k := 2) rfl (by rw [ha]; decide) (hA 2 (by kernel_rfl) (.inl rfl))
   clear p3
   clear hA HS ht
   exact Rg.zf (o := ⟨some 13, Op.unOp UnOp.not 4 (Operand.tmp 12), _, _, _, _⟩) (x := .bool false) rfl rfl (by simp only [execOp]; go_simp) ⟨_, rfl, (fun h => by cases h), rfl, hI, fun _ _ _ h => h⟩
  ·intro bb w' hf hI hA
   clear hi'
   have q10 : bb.tmps[10]? = some _ := hf.tmp (k := 0) rfl (by rw [ha]; decide) (hA 0 (by kernel_rfl) (.inl rfl))
   have q13 : bb.tmps[13]? = some _ := hf.tmp (k := 3) rfl (by rw [ha]; decide) (hA 3 (by kernel_rfl) (.inl rfl))
   clear p3
   refine Rg.jr (o := ⟨some 14, Op.call { callee := Callee.value (Operand.func 44), args := #[(Operand.tmp 10), (Operand.tmp 13), (Operand.const (Value.int .i64 2))], argTypes := _ }, _, _, _, _⟩) rfl rfl (by clear hA HS ht; simp only [execOp, resolve]; go_simp) (zbz x 2 w') ?_
   rintro e w2 ⟨rfl, hb⟩
   exact ⟨_, rfl, _, rfl, (fun h => by cases h), rfl, onto hI hb, fun k9 y9 _ h => HS hb k9 y9 h⟩
theorem zdi {a b : Act} (hf : Rg.Fr (Rg.opsOf Tryz.f28 2) a b) : b = Rg.fl (Rg.opsOf Tryz.f28 2) b 0 [some 10, some 11, some 12, some 13, some 14] a := Rg.ql _ (by kernel_rfl) hf
def FB2d (B3 : Nat) (x : Dd) (i9 : Nat) (v : Value) (w : World) : Prop :=
 match i9 with
 | 0 => v = .agg #[.int .i64 x.k, .int .i64 x.o.id, .int .i64 x.o.p, .int .i64 x.o.d, .int .i64 x.o.n, .int .i64 x.o.f, .int .i64 x.o.e, .int .i64 x.o.c, .int .i64 x.o.s, .bool x.o.two, .int .i64 x.id, .int .i64 x.p, .int .i64 x.d, .int .i64 x.n, .int .i64 x.m, .int .i64 x.b, .int .i64 x.a]
 | 1 => v = .agg #[.int .i64 x.k, .int .i64 x.o.id, .int .i64 x.o.p, .int .i64 x.o.d, .int .i64 x.o.n, .int .i64 x.o.f, .int .i64 x.o.e, .int .i64 x.o.c, .int .i64 x.o.s, .bool x.o.two, .int .i64 x.id, .int .i64 x.p, .int .i64 x.d, .int .i64 x.n, .int .i64 x.m, .int .i64 x.b, .int .i64 x.a]
 | 2 => v = .bool false
 | 3 => v = .bool true
 | 4 => False
 | _ => True
theorem zel : (Rg.opsOf Tryz.f28 2).size = 5 := by kernel_rfl
set_option maxRecDepth 20000 in
set_option maxHeartbeats 16000000 in
theorem regB2d {Q : Exit -> Act -> World -> Prop} {a : Act} {w9 : World} {B3 : Nat} {x : Dd} (ha : a.tmps.size = 33)
  (k3 : a.tmps[3]? = some (.pointer (some ⟨B3, 0, none⟩))) (p3 : PB w9 B3 #[.int .i64 x.k, .int .i64 x.o.id, .int .i64 x.o.p, .int .i64 x.o.d, .int .i64 x.o.n, .int .i64 x.o.f, .int .i64 x.o.e, .int .i64 x.o.c, .int .i64 x.o.s, .bool x.o.two, .int .i64 x.id, .int .i64 x.p, .int .i64 x.d, .int .i64 x.n, .int .i64 x.m, .int .i64 x.b, .int .i64 x.a] 40) (ht : ddB x = false) (hdie : ∀ b' w', Rg.Fr (Rg.opsOf Tryz.f28 2) a b' -> Below w9.heap.size w9 w' -> Q (.panic [{ v := kz x.k 2, recovered := false }]) b' w') :
  (Code.region 2 (Rg.opsOf Tryz.f28 2) true).wp Tryz.prog Q a w9 := by
 refine Rg.zas (by kernel_rfl) (fun w' => Below w9.heap.size w9 w') (FB2d B3 x) (fun _ => none) (by rw [ha, zel]; kernel_rfl) (jq (Below.refl _ _)) ?_ ?_
 case refine_2 =>
  intro b' w' hf hI hA
  rw [zel] at hA
  exact (hA 4 (by decide) rfl).elim
 case refine_1 =>
  have HS : ∀ {w w' : World}, Below w.heap.size w w' -> ∀ k9 y9, FB2d B3 x k9 y9 w -> FB2d B3 x k9 y9 w' := fun hb k9 y9 h => by
   unfold FB2d at *
   split at h <;> exact h
  intro i' hi'
  rw [zel] at hi'
  rcases (show i' = 0 ∨ i' = 1 ∨ i' = 2 ∨ i' = 3 ∨ i' = 4 by omega) with rfl | rfl | rfl | rfl | rfl
  ·intro bb w' hf hI hA
   clear hi'
   have q3 := hf.kept (s := 3) (by rw [zel]; kernel_rfl) k3
   have hl := run_loadVar_row (P := Tryz.prog) w' B3 _ 40 #[.int .i64 x.k, .int .i64 x.o.id, .int .i64 x.o.p, .int .i64 x.o.d, .int .i64 x.o.n, .int .i64 x.o.f, .int .i64 x.o.e, .int .i64 x.o.c, .int .i64 x.o.s, .bool x.o.two, .int .i64 x.id, .int .i64 x.p, .int .i64 x.d, .int .i64 x.n, .int .i64 x.m, .int .i64 x.b, .int .i64 x.a] (0, 0) _ (p3.below hI) Tryz.underlying40 rfl (by kernel_rfl)
   clear p3
   clear hA HS ht hdie
   exact Rg.zf (o := ⟨some 10, Op.load 40 (Operand.tmp 3), _, _, _, _⟩) (x := .agg #[.int .i64 x.k, .int .i64 x.o.id, .int .i64 x.o.p, .int .i64 x.o.d, .int .i64 x.o.n, .int .i64 x.o.f, .int .i64 x.o.e, .int .i64 x.o.c, .int .i64 x.o.s, .bool x.o.two, .int .i64 x.id, .int .i64 x.p, .int .i64 x.d, .int .i64 x.n, .int .i64 x.m, .int .i64 x.b, .int .i64 x.a]) rfl rfl (zbo 40 (.tmp 3) ⟨B3, 0, none⟩ _ rfl (by simp [Act.eval, q3]) hl) ⟨_, rfl, (fun h => by cases h), rfl, hI, fun _ _ _ h => h⟩
  ·intro bb w' hf hI hA
   clear hi'
   have q3 := hf.kept (s := 3) (by rw [zel]; kernel_rfl) k3
   have hl := run_loadVar_row (P := Tryz.prog) w' B3 _ 40 #[.int .i64 x.k, .int .i64 x.o.id, .int .i64 x.o.p, .int .i64 x.o.d, .int .i64 x.o.n, .int .i64 x.o.f, .int .i64 x.o.e, .int .i64 x.o.c, .int .i64 x.o.s, .bool x.o.two, .int .i64 x.id, .int .i64 x.p, .int .i64 x.d, .int .i64 x.n, .int .i64 x.m, .int .i64 x.b, .int .i64 x.a] (0, 0) _ (p3.below hI) Tryz.underlying40 rfl (by kernel_rfl)
   clear p3
   clear hA HS ht hdie
   exact Rg.zf (o := ⟨some 11, Op.load 40 (Operand.tmp 3), _, _, _, _⟩) (x := .agg #[.int .i64 x.k, .int .i64 x.o.id, .int .i64 x.o.p, .int .i64 x.o.d, .int .i64 x.o.n, .int .i64 x.o.f, .int .i64 x.o.e, .int .i64 x.o.c, .int .i64 x.o.s, .bool x.o.two, .int .i64 x.id, .int .i64 x.p, .int .i64 x.d, .int .i64 x.n, .int .i64 x.m, .int .i64 x.b, .int .i64 x.a]) rfl rfl (zbo 40 (.tmp 3) ⟨B3, 0, none⟩ _ rfl (by simp [Act.eval, q3]) hl) ⟨_, rfl, (fun h => by cases h), rfl, hI, fun _ _ _ h => h⟩
  ·intro bb w' hf hI hA
   clear hi'
   have q11 : bb.tmps[11]? = some _ := hf.tmp (k := 1) rfl (by rw [ha]; decide) (hA 1 (by kernel_rfl) (.inl rfl))
   clear p3
   refine Rg.jr (o := ⟨some 12, Op.call { callee := Callee.value (Operand.func 45), args := #[(Operand.tmp 11)], argTypes := _ }, _, _, _, _⟩) rfl rfl (by clear hA HS ht hdie; simp only [execOp, resolve]; go_simp) (zg7 x w' ht) ?_
   rintro e w2 ⟨rfl, hb⟩
   exact ⟨_, rfl, _, rfl, (fun h => by cases h), rfl, onto hI hb, fun k9 y9 _ h => HS hb k9 y9 h⟩
  ·intro bb w' hf hI hA
   clear hi'
   have q12 : bb.tmps[12]? = some _ := hf.tmp (k := 2) rfl (by rw [ha]; decide) (hA 2 (by kernel_rfl) (.inl rfl))
   clear p3
   clear hA HS ht hdie
   exact Rg.zf (o := ⟨some 13, Op.unOp UnOp.not 4 (Operand.tmp 12), _, _, _, _⟩) (x := .bool true) rfl rfl (by simp only [execOp]; go_simp) ⟨_, rfl, (fun h => by cases h), rfl, hI, fun _ _ _ h => h⟩
  ·intro bb w' hf hI hA
   clear hi'
   have q10 : bb.tmps[10]? = some _ := hf.tmp (k := 0) rfl (by rw [ha]; decide) (hA 0 (by kernel_rfl) (.inl rfl))
   have q13 : bb.tmps[13]? = some _ := hf.tmp (k := 3) rfl (by rw [ha]; decide) (hA 3 (by kernel_rfl) (.inl rfl))
   refine Rg.zdk (o := ⟨some 14, Op.call { callee := Callee.value (Operand.func 44), args := #[(Operand.tmp 10), (Operand.tmp 13), (Operand.const (Value.int .i64 2))], argTypes := _ }, _, _, _, _⟩) rfl rfl (by clear hA HS hdie; simp only [execOp, resolve]; go_simp) (zce x 2 w') ?_
   rintro e w2 ⟨rfl, hb⟩
   exact ⟨_, rfl, hdie _ _ hf (onto hI hb)⟩
end Go.Proofs.YtjlpfpigggdemaaGreatDoor
