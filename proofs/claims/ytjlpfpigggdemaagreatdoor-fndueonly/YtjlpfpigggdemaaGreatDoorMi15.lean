/-
 Merged: U45.
-/
import Derived.Test.YtjlpfpigggdemaaGreatDoorMi10
import Derived.Test.YtjlpfpigggdemaaGreatDoorMi14
namespace Go.Proofs.YtjlpfpigggdemaaGreatDoor
set_option maxRecDepth 8000
set_option maxHeartbeats 4000000
open Go.RowKit Va Uo
set_option linter.all false
theorem PB.under {w w' : World} {B b : Nat} {vs : Array Value} {t : TypeId} (h : PB w B vs t) (hb : Below b w w') (hl : B < b) : PB w' B vs t := (hb.block B hl).trans h
def FH5d (ao ad : Option Addr) (n cap m dcap : Nat) (os : List Od) (ds : List Ds) (os2 : List Od) (ds2 : List Ds) (x : Dd) (B4 base : Nat) (i9 : Nat) (v : Value) (w : World) : Prop :=
 match i9 with
 | 0 => v = .agg #[.slice ao n cap, .slice ad m dcap]
 | 1 => ∃ a1 c1 a2 c2, v = .agg #[.slice a1 os.length c1, .slice a2 ds.length c2] /\ Cp.zo w base (.slice a1 os.length c1) (.slice a2 ds.length c2) os ds
 | 2 => v = .agg #[.int .i64 x.k, .int .i64 x.o.id, .int .i64 x.o.p, .int .i64 x.o.d, .int .i64 x.o.n, .int .i64 x.o.f, .int .i64 x.o.e, .int .i64 x.o.c, .int .i64 x.o.s, .bool x.o.two, .int .i64 x.id, .int .i64 x.p, .int .i64 x.d, .int .i64 x.n, .int .i64 x.m, .int .i64 x.b, .int .i64 x.a]
 | 3 => False
 | 4 => False
 | _ => True
theorem zep : (Rg.opsOf Tryz.f28 5).size = 5 := by kernel_rfl
set_option maxRecDepth 20000 in
set_option maxHeartbeats 16000000 in
theorem regH5d {Q : Exit -> Act -> World -> Prop} {a : Act} {w0 w9 : World} {B2 B3 B4 : Nat} {ao ad : Option Addr} {n cap m dcap : Nat} {os : List Od} {ds : List Ds} {x : Dd} {c : Int} (ha : a.tmps.size = 33) (k2 : a.tmps[2]? = some (.pointer (some ⟨B2, 0, none⟩))) (k3 : a.tmps[3]? = some (.pointer (some ⟨B3, 0, none⟩))) (k4 : a.tmps[4]? = some (.pointer (some ⟨B4, 0, none⟩)))
  (p2 : PB w9 B2 #[.slice ao n cap, .slice ad m dcap] 27) (p3 : PB w9 B3 #[.int .i64 x.k, .int .i64 x.o.id, .int .i64 x.o.p, .int .i64 x.o.d, .int .i64 x.o.n, .int .i64 x.o.f, .int .i64 x.o.e, .int .i64 x.o.c, .int .i64 x.o.s, .bool x.o.two, .int .i64 x.id, .int .i64 x.p, .int .i64 x.d, .int .i64 x.n, .int .i64 x.m, .int .i64 x.b, .int .i64 x.a] 40) (p4 : PB w9 B4 #[.slice none 0 0, .slice none 0 0] 27) (hb9 : Below w0.heap.size w0 w9) (l4 : w0.heap.size <= B4) (hR : Cp.CRw w0 (.slice ao n cap) (.slice ad m dcap) os ds) (hn : os.length <= 1048576) (hm : ds.length <= 1048576)
  (hcall : ∀ W a1 c1 a2 c2, Cp.zo W w9.heap.size (.slice a1 os.length c1) (.slice a2 ds.length c2) os ds -> w9.heap.size <= W.heap.size -> Calls Tryz.prog 46 #[.agg #[.slice a1 os.length c1, .slice a2 ds.length c2], .agg #[.int .i64 x.k, .int .i64 x.o.id, .int .i64 x.o.p, .int .i64 x.o.d, .int .i64 x.o.n, .int .i64 x.o.f, .int .i64 x.o.e, .int .i64 x.o.c, .int .i64 x.o.s, .bool x.o.two, .int .i64 x.id, .int .i64 x.p, .int .i64 x.d, .int .i64 x.n, .int .i64 x.m, .int .i64 x.b, .int .i64 x.a]] W fun e w' => e = .panicked [{ v := kz x.k c, recovered := false }] /\ Below W.heap.size W w')
  (hdie : ∀ b' w', Rg.Fr (Rg.opsOf Tryz.f28 5) a b' -> Below w0.heap.size w0 w' -> Q (.panic [{ v := kz x.k c, recovered := false }]) b' w') :
  (Code.region 5 (Rg.opsOf Tryz.f28 5) true).wp Tryz.prog Q a w9 := by
 have l2 := p2.lt
 have l3 := p3.lt
 have l44 := p4.lt
 have z9 := hb9.size
 refine Rg.zas (by kernel_rfl) (fun w' => Below w0.heap.size w0 w' /\ PB w' B2 #[.slice ao n cap, .slice ad m dcap] 27 /\ PB w' B3 #[.int .i64 x.k, .int .i64 x.o.id, .int .i64 x.o.p, .int .i64 x.o.d, .int .i64 x.o.n, .int .i64 x.o.f, .int .i64 x.o.e, .int .i64 x.o.c, .int .i64 x.o.s, .bool x.o.two, .int .i64 x.id, .int .i64 x.p, .int .i64 x.d, .int .i64 x.n, .int .i64 x.m, .int .i64 x.b, .int .i64 x.a] 40 /\ (∃ z1 z2, PB w' B4 #[z1, z2] 27) /\ w9.heap.size <= w'.heap.size) (FH5d ao ad n cap m dcap os ds os ds x B4 w9.heap.size) (fun k => match k with | 1 => some 3 | 3 => some 4 | _ => none) (by rw [ha, zep]; kernel_rfl) ⟨jq hb9, p2, p3, ⟨_, _, p4⟩, Nat.le_refl _⟩ ?_ ?_
 case refine_2 =>
  intro b' w' hf hI hA
  rw [zep] at hA
  exact (hA 4 (by decide) rfl).elim
 case refine_1 =>
  clear p4
  have HS : ∀ {w w' : World}, Below w.heap.size w w' -> ∀ k9 y9, k9 ≠ 4 -> FH5d ao ad n cap m dcap os ds os ds x B4 w9.heap.size k9 y9 w -> FH5d ao ad n cap m dcap os ds os ds x B4 w9.heap.size k9 y9 w' := fun hb k9 y9 h4 h => by
   unfold FH5d at *
   split at h <;> first | exact h | exact absurd rfl h4 | (obtain ⟨a1, c1, a2, c2, h1, h2⟩ := h; exact ⟨a1, c1, a2, c2, h1, h2.below hb⟩) | (obtain ⟨v1, v2, h1, h2⟩ := h; exact ⟨v1, v2, h1, h2.below hb⟩)
  intro i' hi'
  rw [zep] at hi'
  rcases (show i' = 0 ∨ i' = 1 ∨ i' = 2 ∨ i' = 3 ∨ i' = 4 by omega) with rfl | rfl | rfl | rfl | rfl
  ·intro bb w' hf hI hA
   have q2 := hf.kept (s := 2) (by rw [zep]; kernel_rfl) k2
   obtain ⟨e0, e1⟩ := hI.2.1.two
   exact Rg.zf (o := ⟨some 19, Op.load 27 (Operand.tmp 2), _, _, _, _⟩) (x := .agg #[.slice ao n cap, .slice ad m dcap]) rfl rfl (by clear hA HS hcall hI hR; simp only [execOp]; go_simp) ⟨_, rfl, (fun h => by cases h), rfl, hI, fun _ _ _ h => h⟩
  ·intro bb w' hf hI hA
   have q19 : bb.tmps[19]? = some _ := hf.tmp (k := 0) rfl (by rw [ha]; decide) (hA 0 (by kernel_rfl) (.inl rfl))
   obtain ⟨z1, z2, hz⟩ := hI.2.2.2.1
   refine Rg.jr (o := ⟨some 20, Op.call { callee := Callee.value (Operand.func 42), args := #[Operand.tmp 19], argTypes := _ }, _, _, _, _⟩) rfl rfl (by clear hA HS hcall hI hR hz; simp only [execOp, resolve]; go_simp) (Cp.zdf ao ad n cap m dcap os ds w' (hR.below hI.1) hn hm) ?_
   rintro e w2 ⟨a1, c1, a2, c2, rfl, hN, hb⟩
   exact ⟨_, rfl, _, rfl, (fun h => by cases h), ⟨a1, c1, a2, c2, rfl, zav hN hI.2.2.2.2⟩, ⟨onto hI.1 hb, hI.2.1.below hb, hI.2.2.1.below hb, ⟨_, _, hz.below hb⟩, Nat.le_trans hI.2.2.2.2 hb.size⟩, fun k9 y9 hd h => HS hb k9 y9 (fun e => by subst e; revert hd; decide +kernel) h⟩
  ·intro bb w' hf hI hA
   have q3 := hf.kept (s := 3) (by rw [zep]; kernel_rfl) k3
   have hl := run_loadVar_row (P := Tryz.prog) w' B3 _ 40 #[.int .i64 x.k, .int .i64 x.o.id, .int .i64 x.o.p, .int .i64 x.o.d, .int .i64 x.o.n, .int .i64 x.o.f, .int .i64 x.o.e, .int .i64 x.o.c, .int .i64 x.o.s, .bool x.o.two, .int .i64 x.id, .int .i64 x.p, .int .i64 x.d, .int .i64 x.n, .int .i64 x.m, .int .i64 x.b, .int .i64 x.a] (0, 0) _ hI.2.2.1 Tryz.underlying40 rfl (by kernel_rfl)
   exact Rg.zf (o := ⟨some 21, Op.load 40 (Operand.tmp 3), _, _, _, _⟩) (x := .agg #[.int .i64 x.k, .int .i64 x.o.id, .int .i64 x.o.p, .int .i64 x.o.d, .int .i64 x.o.n, .int .i64 x.o.f, .int .i64 x.o.e, .int .i64 x.o.c, .int .i64 x.o.s, .bool x.o.two, .int .i64 x.id, .int .i64 x.p, .int .i64 x.d, .int .i64 x.n, .int .i64 x.m, .int .i64 x.b, .int .i64 x.a]) rfl rfl (zbo 40 (.tmp 3) ⟨B3, 0, none⟩ _ rfl (by simp [Act.eval, q3]) hl) ⟨_, rfl, (fun h => by cases h), rfl, hI, fun _ _ _ h => h⟩
  ·intro bb w' hf hI hA
   obtain ⟨a1, c1, a2, c2, hv, hN⟩ := hA 1 (by kernel_rfl) (.inr rfl)
   have q20 : bb.tmps[20]? = some _ := hf.tmp (k := 1) rfl (by rw [ha]; decide) hv
   have q21 : bb.tmps[21]? = some _ := hf.tmp (k := 2) rfl (by rw [ha]; decide) (hA 2 (by kernel_rfl) (.inl rfl))
   have hC := hcall w' a1 c1 a2 c2 hN hI.2.2.2.2
   refine Rg.zdk (o := ⟨some 22, Op.call { callee := Callee.value (Operand.func 46), args := #[Operand.tmp 20, Operand.tmp 21], argTypes := _ }, _, _, _, _⟩) rfl rfl (by clear hA HS hcall hI hR hC hN hv hdie; simp only [execOp, resolve]; go_simp) hC ?_
   rintro e w2 ⟨rfl, hb⟩
   exact ⟨_, rfl, hdie _ _ hf (onto hI.1 hb)⟩
  ·intro bb w' hf hI hA
   exact (hA 3 (by kernel_rfl) (.inr rfl)).elim
def FH5y (ao ad : Option Addr) (n cap m dcap : Nat) (os : List Od) (ds : List Ds) (os2 : List Od) (ds2 : List Ds) (x : Dd) (B4 base : Nat) (i9 : Nat) (v : Value) (w : World) : Prop :=
 match i9 with
 | 0 => v = .agg #[.slice ao n cap, .slice ad m dcap]
 | 1 => ∃ a1 c1 a2 c2, v = .agg #[.slice a1 os.length c1, .slice a2 ds.length c2] /\ Cp.zo w base (.slice a1 os.length c1) (.slice a2 ds.length c2) os ds
 | 2 => v = .agg #[.int .i64 x.k, .int .i64 x.o.id, .int .i64 x.o.p, .int .i64 x.o.d, .int .i64 x.o.n, .int .i64 x.o.f, .int .i64 x.o.e, .int .i64 x.o.c, .int .i64 x.o.s, .bool x.o.two, .int .i64 x.id, .int .i64 x.p, .int .i64 x.d, .int .i64 x.n, .int .i64 x.m, .int .i64 x.b, .int .i64 x.a]
 | 3 => ∃ v1 v2, v = .agg #[v1, v2] /\ Cp.zo w base v1 v2 os2 ds2
 | 4 => ∃ v1 v2, PB w B4 #[v1, v2] 27 /\ Cp.zo w base v1 v2 os2 ds2
 | _ => True
theorem zd3 : (Rg.opsOf Tryz.f28 5).size = 5 := by kernel_rfl
theorem dstH5y : Rg.ja (Rg.opsOf Tryz.f28 5) 4 = none := by kernel_rfl
set_option maxRecDepth 20000 in
set_option maxHeartbeats 16000000 in
theorem regH5y {Q : Exit -> Act -> World -> Prop} {a : Act} {w0 w9 : World} {B2 B3 B4 : Nat} {ao ad : Option Addr} {n cap m dcap : Nat} {os : List Od} {ds : List Ds} {os2 : List Od} {ds2 : List Ds} {x : Dd} {c : Int} (ha : a.tmps.size = 33) (k2 : a.tmps[2]? = some (.pointer (some ⟨B2, 0, none⟩))) (k3 : a.tmps[3]? = some (.pointer (some ⟨B3, 0, none⟩))) (k4 : a.tmps[4]? = some (.pointer (some ⟨B4, 0, none⟩)))
  (p2 : PB w9 B2 #[.slice ao n cap, .slice ad m dcap] 27) (p3 : PB w9 B3 #[.int .i64 x.k, .int .i64 x.o.id, .int .i64 x.o.p, .int .i64 x.o.d, .int .i64 x.o.n, .int .i64 x.o.f, .int .i64 x.o.e, .int .i64 x.o.c, .int .i64 x.o.s, .bool x.o.two, .int .i64 x.id, .int .i64 x.p, .int .i64 x.d, .int .i64 x.n, .int .i64 x.m, .int .i64 x.b, .int .i64 x.a] 40) (p4 : PB w9 B4 #[.slice none 0 0, .slice none 0 0] 27) (hb9 : Below w0.heap.size w0 w9) (l4 : w0.heap.size <= B4) (hR : Cp.CRw w0 (.slice ao n cap) (.slice ad m dcap) os ds) (hn : os.length <= 1048576) (hm : ds.length <= 1048576) (h24 : B4 ≠ B2) (h34 : B4 ≠ B3)
  (hcall : ∀ W a1 c1 a2 c2, Cp.zo W w9.heap.size (.slice a1 os.length c1) (.slice a2 ds.length c2) os ds -> w9.heap.size <= W.heap.size -> Calls Tryz.prog 46 #[.agg #[.slice a1 os.length c1, .slice a2 ds.length c2], .agg #[.int .i64 x.k, .int .i64 x.o.id, .int .i64 x.o.p, .int .i64 x.o.d, .int .i64 x.o.n, .int .i64 x.o.f, .int .i64 x.o.e, .int .i64 x.o.c, .int .i64 x.o.s, .bool x.o.two, .int .i64 x.id, .int .i64 x.p, .int .i64 x.d, .int .i64 x.n, .int .i64 x.m, .int .i64 x.b, .int .i64 x.a]] W fun e w' => ∃ v1 v2, e = .returned (.agg #[v1, v2]) /\ Cp.zo w' w9.heap.size v1 v2 os2 ds2 /\ Below w9.heap.size W w')
  (hend : ∀ b' w' v1 v2, Rg.Fr (Rg.opsOf Tryz.f28 5) a b' -> Below w0.heap.size w0 w' -> PB w' B4 #[v1, v2] 27 -> Cp.zo w' w9.heap.size v1 v2 os2 ds2 -> Q .normal b' w') :
  (Code.region 5 (Rg.opsOf Tryz.f28 5) true).wp Tryz.prog Q a w9 := by
 have l2 := p2.lt
 have l3 := p3.lt
 have l44 := p4.lt
 have z9 := hb9.size
 refine Rg.zas (by kernel_rfl) (fun w' => Below w0.heap.size w0 w' /\ PB w' B2 #[.slice ao n cap, .slice ad m dcap] 27 /\ PB w' B3 #[.int .i64 x.k, .int .i64 x.o.id, .int .i64 x.o.p, .int .i64 x.o.d, .int .i64 x.o.n, .int .i64 x.o.f, .int .i64 x.o.e, .int .i64 x.o.c, .int .i64 x.o.s, .bool x.o.two, .int .i64 x.id, .int .i64 x.p, .int .i64 x.d, .int .i64 x.n, .int .i64 x.m, .int .i64 x.b, .int .i64 x.a] 40 /\ (∃ z1 z2, PB w' B4 #[z1, z2] 27) /\ w9.heap.size <= w'.heap.size) (FH5y ao ad n cap m dcap os ds os2 ds2 x B4 w9.heap.size) (fun k => match k with | 1 => some 3 | 3 => some 4 | _ => none) (by rw [ha, zd3]; kernel_rfl) ⟨jq hb9, p2, p3, ⟨_, _, p4⟩, Nat.le_refl _⟩ ?_ ?_
 case refine_2 =>
  intro b' w' hf hI hA
  rw [zd3] at hA
  obtain ⟨v1, v2, h1, h2⟩ := hA 4 (by decide) rfl
  exact hend b' w' v1 v2 hf hI.1 h1 h2
 case refine_1 =>
  clear hend p4
  have HS : ∀ {w w' : World}, Below w.heap.size w w' -> ∀ k9 y9, k9 ≠ 4 -> FH5y ao ad n cap m dcap os ds os2 ds2 x B4 w9.heap.size k9 y9 w -> FH5y ao ad n cap m dcap os ds os2 ds2 x B4 w9.heap.size k9 y9 w' := fun hb k9 y9 h4 h => by
   unfold FH5y at *
   split at h <;> first | exact h | exact absurd rfl h4 | (obtain ⟨a1, c1, a2, c2, h1, h2⟩ := h; exact ⟨a1, c1, a2, c2, h1, h2.below hb⟩) | (obtain ⟨v1, v2, h1, h2⟩ := h; exact ⟨v1, v2, h1, h2.below hb⟩)
  intro i' hi'
  rw [zd3] at hi'
  rcases (show i' = 0 ∨ i' = 1 ∨ i' = 2 ∨ i' = 3 ∨ i' = 4 by omega) with rfl | rfl | rfl | rfl | rfl
  ·intro bb w' hf hI hA
   have q2 := hf.kept (s := 2) (by rw [zd3]; kernel_rfl) k2
   obtain ⟨e0, e1⟩ := hI.2.1.two
   exact Rg.zf (o := ⟨some 19, Op.load 27 (Operand.tmp 2), _, _, _, _⟩) (x := .agg #[.slice ao n cap, .slice ad m dcap]) rfl rfl (by clear hA HS hcall hI hR; simp only [execOp]; go_simp) ⟨_, rfl, (fun h => by cases h), rfl, hI, fun _ _ _ h => h⟩
  ·intro bb w' hf hI hA
   have q19 : bb.tmps[19]? = some _ := hf.tmp (k := 0) rfl (by rw [ha]; decide) (hA 0 (by kernel_rfl) (.inl rfl))
   obtain ⟨z1, z2, hz⟩ := hI.2.2.2.1
   refine Rg.jr (o := ⟨some 20, Op.call { callee := Callee.value (Operand.func 42), args := #[Operand.tmp 19], argTypes := _ }, _, _, _, _⟩) rfl rfl (by clear hA HS hcall hI hR hz; simp only [execOp, resolve]; go_simp) (Cp.zdf ao ad n cap m dcap os ds w' (hR.below hI.1) hn hm) ?_
   rintro e w2 ⟨a1, c1, a2, c2, rfl, hN, hb⟩
   exact ⟨_, rfl, _, rfl, (fun h => by cases h), ⟨a1, c1, a2, c2, rfl, zav hN hI.2.2.2.2⟩, ⟨onto hI.1 hb, hI.2.1.below hb, hI.2.2.1.below hb, ⟨_, _, hz.below hb⟩, Nat.le_trans hI.2.2.2.2 hb.size⟩, fun k9 y9 hd h => HS hb k9 y9 (fun e => by subst e; revert hd; decide +kernel) h⟩
  ·intro bb w' hf hI hA
   have q3 := hf.kept (s := 3) (by rw [zd3]; kernel_rfl) k3
   have hl := run_loadVar_row (P := Tryz.prog) w' B3 _ 40 #[.int .i64 x.k, .int .i64 x.o.id, .int .i64 x.o.p, .int .i64 x.o.d, .int .i64 x.o.n, .int .i64 x.o.f, .int .i64 x.o.e, .int .i64 x.o.c, .int .i64 x.o.s, .bool x.o.two, .int .i64 x.id, .int .i64 x.p, .int .i64 x.d, .int .i64 x.n, .int .i64 x.m, .int .i64 x.b, .int .i64 x.a] (0, 0) _ hI.2.2.1 Tryz.underlying40 rfl (by kernel_rfl)
   exact Rg.zf (o := ⟨some 21, Op.load 40 (Operand.tmp 3), _, _, _, _⟩) (x := .agg #[.int .i64 x.k, .int .i64 x.o.id, .int .i64 x.o.p, .int .i64 x.o.d, .int .i64 x.o.n, .int .i64 x.o.f, .int .i64 x.o.e, .int .i64 x.o.c, .int .i64 x.o.s, .bool x.o.two, .int .i64 x.id, .int .i64 x.p, .int .i64 x.d, .int .i64 x.n, .int .i64 x.m, .int .i64 x.b, .int .i64 x.a]) rfl rfl (zbo 40 (.tmp 3) ⟨B3, 0, none⟩ _ rfl (by simp [Act.eval, q3]) hl) ⟨_, rfl, (fun h => by cases h), rfl, hI, fun _ _ _ h => h⟩
  ·intro bb w' hf hI hA
   obtain ⟨a1, c1, a2, c2, hv, hN⟩ := hA 1 (by kernel_rfl) (.inr rfl)
   have q20 : bb.tmps[20]? = some _ := hf.tmp (k := 1) rfl (by rw [ha]; decide) hv
   have q21 : bb.tmps[21]? = some _ := hf.tmp (k := 2) rfl (by rw [ha]; decide) (hA 2 (by kernel_rfl) (.inl rfl))
   have hC := hcall w' a1 c1 a2 c2 hN hI.2.2.2.2
   obtain ⟨z1, z2, hz⟩ := hI.2.2.2.1
   refine Rg.jr (o := ⟨some 22, Op.call { callee := Callee.value (Operand.func 46), args := #[Operand.tmp 20, Operand.tmp 21], argTypes := _ }, _, _, _, _⟩) rfl rfl (by clear hA HS hcall hI hR hC hN hv hz; simp only [execOp, resolve]; go_simp) hC ?_
   rintro e w2 ⟨v1, v2, rfl, hN2, hb⟩
   refine ⟨_, rfl, _, rfl, (fun h => by cases h), ⟨v1, v2, rfl, hN2⟩, ⟨hI.1.trans (hb.mono z9), hI.2.1.under hb l2, hI.2.2.1.under hb l3, ⟨_, _, hz.under hb l44⟩, Nat.le_trans hI.2.2.2.2 hb.size⟩, fun k9 y9 hd h => ?_⟩
   unfold FH5y at *
   split at h <;> first | exact h | (exfalso; revert hd; decide +kernel)
  ·intro bb w' hf hI hA
   have q4 := hf.kept (s := 4) (by rw [zd3]; kernel_rfl) k4
   obtain ⟨v1, v2, hv, hN⟩ := hA 3 (by kernel_rfl) (.inr rfl)
   obtain ⟨a1, c1, a2, c2, e1', e2'⟩ := hN.form
   subst e1' e2'
   have q22 : bb.tmps[22]? = some _ := hf.tmp (k := 3) rfl (by rw [ha]; decide) hv
   obtain ⟨z1, z2, hz⟩ := hI.2.2.2.1
   have e0 : w'.cell? ⟨B4, 0, none⟩ = some z1 := hz.cell 0
   have e1 : w'.cell? ⟨B4, 1, none⟩ = some z2 := hz.cell 1
   have f0 := hz.frozen 0
   have f1 := hz.frozen 1
   have p5 : PB ((w'.setCell ⟨B4, 0, none⟩ (.slice a1 os2.length c1)).setCell ⟨B4, 1, none⟩ (.slice a2 ds2.length c2)) B4 #[.slice a1 os2.length c1, .slice a2 ds2.length c2] 27 := (hz.set 0 _).set 1 _
   have N5 : Cp.zo ((w'.setCell ⟨B4, 0, none⟩ (.slice a1 os2.length c1)).setCell ⟨B4, 1, none⟩ (.slice a2 ds2.length c2)) w9.heap.size (.slice a1 os2.length c1) (.slice a2 ds2.length c2) os2 ds2 := ⟨Cp.jo (Cp.jo hN.1 (jb hN.1 hz (by decide)) _ _) (jb hN.1 hz (by decide)) _ _, Cp.jo (Cp.jo hN.2 (jb hN.2 hz (by decide)) _ _) (jb hN.2 hz (by decide)) _ _⟩
   refine Rg.zaq (o := ⟨none, Op.store 27 (Operand.tmp 4) (Operand.tmp 22), _, _, _, _⟩) (w' := (w'.setCell ⟨B4, 0, none⟩ (.slice a1 os2.length c1)).setCell ⟨B4, 1, none⟩ (.slice a2 ds2.length c2)) rfl rfl ?_ ⟨undef, (by rw [dstH5y]), (fun _ => ⟨_, _, p5, N5⟩), ⟨_, _, p5, N5⟩, ⟨(hI.1.setCell (p := ⟨B4, 0, none⟩) l4 _).setCell (p := ⟨B4, 1, none⟩) l4 _, (hI.2.1.far h24 _ _).far h24 _ _, (hI.2.2.1.far h34 _ _).far h34 _ _, ⟨_, _, p5⟩, by simpa using hI.2.2.2.2⟩, fun k9 y9 hd h => ?_⟩
   ·clear hA HS hcall hI hR hN hv hz p5 N5; simp only [execOp]; go_simp
   ·unfold FH5y at *
    split at h <;> first | exact h | (exfalso; revert hd; decide +kernel)
theorem layH5y {a b : Act} (hf : Rg.Fr (Rg.opsOf Tryz.f28 5) a b) : b = Rg.fl (Rg.opsOf Tryz.f28 5) b 0 [some 19, some 20, some 21, some 22, none] a := Rg.ql _ (by kernel_rfl) hf
def FH7d (ao ad : Option Addr) (n cap m dcap : Nat) (os : List Od) (ds : List Ds) (os2 : List Od) (ds2 : List Ds) (x : Dd) (B4 base : Nat) (i9 : Nat) (v : Value) (w : World) : Prop :=
 match i9 with
 | 0 => v = .agg #[.slice ao n cap, .slice ad m dcap]
 | 1 => ∃ a1 c1 a2 c2, v = .agg #[.slice a1 os.length c1, .slice a2 ds.length c2] /\ Cp.zo w base (.slice a1 os.length c1) (.slice a2 ds.length c2) os ds
 | 2 => v = .agg #[.int .i64 x.k, .int .i64 x.o.id, .int .i64 x.o.p, .int .i64 x.o.d, .int .i64 x.o.n, .int .i64 x.o.f, .int .i64 x.o.e, .int .i64 x.o.c, .int .i64 x.o.s, .bool x.o.two, .int .i64 x.id, .int .i64 x.p, .int .i64 x.d, .int .i64 x.n, .int .i64 x.m, .int .i64 x.b, .int .i64 x.a]
 | 3 => False
 | 4 => False
 | _ => True
theorem zem : (Rg.opsOf Tryz.f28 7).size = 5 := by kernel_rfl
set_option maxRecDepth 20000 in
set_option maxHeartbeats 16000000 in
theorem regH7d {Q : Exit -> Act -> World -> Prop} {a : Act} {w0 w9 : World} {B2 B3 B4 : Nat} {ao ad : Option Addr} {n cap m dcap : Nat} {os : List Od} {ds : List Ds} {x : Dd} {c : Int} (ha : a.tmps.size = 33) (k2 : a.tmps[2]? = some (.pointer (some ⟨B2, 0, none⟩))) (k3 : a.tmps[3]? = some (.pointer (some ⟨B3, 0, none⟩))) (k4 : a.tmps[4]? = some (.pointer (some ⟨B4, 0, none⟩)))
  (p2 : PB w9 B2 #[.slice ao n cap, .slice ad m dcap] 27) (p3 : PB w9 B3 #[.int .i64 x.k, .int .i64 x.o.id, .int .i64 x.o.p, .int .i64 x.o.d, .int .i64 x.o.n, .int .i64 x.o.f, .int .i64 x.o.e, .int .i64 x.o.c, .int .i64 x.o.s, .bool x.o.two, .int .i64 x.id, .int .i64 x.p, .int .i64 x.d, .int .i64 x.n, .int .i64 x.m, .int .i64 x.b, .int .i64 x.a] 40) (p4 : PB w9 B4 #[.slice none 0 0, .slice none 0 0] 27) (hb9 : Below w0.heap.size w0 w9) (l4 : w0.heap.size <= B4) (hR : Cp.CRw w0 (.slice ao n cap) (.slice ad m dcap) os ds) (hn : os.length <= 1048576) (hm : ds.length <= 1048576)
  (hcall : ∀ W a1 c1 a2 c2, Cp.zo W w9.heap.size (.slice a1 os.length c1) (.slice a2 ds.length c2) os ds -> w9.heap.size <= W.heap.size -> Calls Tryz.prog 47 #[.agg #[.slice a1 os.length c1, .slice a2 ds.length c2], .agg #[.int .i64 x.k, .int .i64 x.o.id, .int .i64 x.o.p, .int .i64 x.o.d, .int .i64 x.o.n, .int .i64 x.o.f, .int .i64 x.o.e, .int .i64 x.o.c, .int .i64 x.o.s, .bool x.o.two, .int .i64 x.id, .int .i64 x.p, .int .i64 x.d, .int .i64 x.n, .int .i64 x.m, .int .i64 x.b, .int .i64 x.a]] W fun e w' => e = .panicked [{ v := kz x.k c, recovered := false }] /\ Below W.heap.size W w')
  (hdie : ∀ b' w', Rg.Fr (Rg.opsOf Tryz.f28 7) a b' -> Below w0.heap.size w0 w' -> Q (.panic [{ v := kz x.k c, recovered := false }]) b' w') :
  (Code.region 7 (Rg.opsOf Tryz.f28 7) true).wp Tryz.prog Q a w9 := by
 have l2 := p2.lt
 have l3 := p3.lt
 have l44 := p4.lt
 have z9 := hb9.size
 refine Rg.zas (by kernel_rfl) (fun w' => Below w0.heap.size w0 w' /\ PB w' B2 #[.slice ao n cap, .slice ad m dcap] 27 /\ PB w' B3 #[.int .i64 x.k, .int .i64 x.o.id, .int .i64 x.o.p, .int .i64 x.o.d, .int .i64 x.o.n, .int .i64 x.o.f, .int .i64 x.o.e, .int .i64 x.o.c, .int .i64 x.o.s, .bool x.o.two, .int .i64 x.id, .int .i64 x.p, .int .i64 x.d, .int .i64 x.n, .int .i64 x.m, .int .i64 x.b, .int .i64 x.a] 40 /\ (∃ z1 z2, PB w' B4 #[z1, z2] 27) /\ w9.heap.size <= w'.heap.size) (FH7d ao ad n cap m dcap os ds os ds x B4 w9.heap.size) (fun k => match k with | 1 => some 3 | 3 => some 4 | _ => none) (by rw [ha, zem]; kernel_rfl) ⟨jq hb9, p2, p3, ⟨_, _, p4⟩, Nat.le_refl _⟩ ?_ ?_
 case refine_2 =>
  intro b' w' hf hI hA
  rw [zem] at hA
  exact (hA 4 (by decide) rfl).elim
 case refine_1 =>
  clear p4
  have HS : ∀ {w w' : World}, Below w.heap.size w w' -> ∀ k9 y9, k9 ≠ 4 -> FH7d ao ad n cap m dcap os ds os ds x B4 w9.heap.size k9 y9 w -> FH7d ao ad n cap m dcap os ds os ds x B4 w9.heap.size k9 y9 w' := fun hb k9 y9 h4 h => by
   unfold FH7d at *
   split at h <;> first | exact h | exact absurd rfl h4 | (obtain ⟨a1, c1, a2, c2, h1, h2⟩ := h; exact ⟨a1, c1, a2, c2, h1, h2.below hb⟩) | (obtain ⟨v1, v2, h1, h2⟩ := h; exact ⟨v1, v2, h1, h2.below hb⟩)
  intro i' hi'
  rw [zem] at hi'
  rcases (show i' = 0 ∨ i' = 1 ∨ i' = 2 ∨ i' = 3 ∨ i' = 4 by omega) with rfl | rfl | rfl | rfl | rfl
  ·intro bb w' hf hI hA
   have q2 := hf.kept (s := 2) (by rw [zem]; kernel_rfl) k2
   obtain ⟨e0, e1⟩ := hI.2.1.two
   exact Rg.zf (o := ⟨some 25, Op.load 27 (Operand.tmp 2), _, _, _, _⟩) (x := .agg #[.slice ao n cap, .slice ad m dcap]) rfl rfl (by clear hA HS hcall hI hR; simp only [execOp]; go_simp) ⟨_, rfl, (fun h => by cases h), rfl, hI, fun _ _ _ h => h⟩
  ·intro bb w' hf hI hA
   have q25 : bb.tmps[25]? = some _ := hf.tmp (k := 0) rfl (by rw [ha]; decide) (hA 0 (by kernel_rfl) (.inl rfl))
   obtain ⟨z1, z2, hz⟩ := hI.2.2.2.1
   refine Rg.jr (o := ⟨some 26, Op.call { callee := Callee.value (Operand.func 42), args := #[Operand.tmp 25], argTypes := _ }, _, _, _, _⟩) rfl rfl (by clear hA HS hcall hI hR hz; simp only [execOp, resolve]; go_simp) (Cp.zdf ao ad n cap m dcap os ds w' (hR.below hI.1) hn hm) ?_
   rintro e w2 ⟨a1, c1, a2, c2, rfl, hN, hb⟩
   exact ⟨_, rfl, _, rfl, (fun h => by cases h), ⟨a1, c1, a2, c2, rfl, zav hN hI.2.2.2.2⟩, ⟨onto hI.1 hb, hI.2.1.below hb, hI.2.2.1.below hb, ⟨_, _, hz.below hb⟩, Nat.le_trans hI.2.2.2.2 hb.size⟩, fun k9 y9 hd h => HS hb k9 y9 (fun e => by subst e; revert hd; decide +kernel) h⟩
  ·intro bb w' hf hI hA
   have q3 := hf.kept (s := 3) (by rw [zem]; kernel_rfl) k3
   have hl := run_loadVar_row (P := Tryz.prog) w' B3 _ 40 #[.int .i64 x.k, .int .i64 x.o.id, .int .i64 x.o.p, .int .i64 x.o.d, .int .i64 x.o.n, .int .i64 x.o.f, .int .i64 x.o.e, .int .i64 x.o.c, .int .i64 x.o.s, .bool x.o.two, .int .i64 x.id, .int .i64 x.p, .int .i64 x.d, .int .i64 x.n, .int .i64 x.m, .int .i64 x.b, .int .i64 x.a] (0, 0) _ hI.2.2.1 Tryz.underlying40 rfl (by kernel_rfl)
   exact Rg.zf (o := ⟨some 27, Op.load 40 (Operand.tmp 3), _, _, _, _⟩) (x := .agg #[.int .i64 x.k, .int .i64 x.o.id, .int .i64 x.o.p, .int .i64 x.o.d, .int .i64 x.o.n, .int .i64 x.o.f, .int .i64 x.o.e, .int .i64 x.o.c, .int .i64 x.o.s, .bool x.o.two, .int .i64 x.id, .int .i64 x.p, .int .i64 x.d, .int .i64 x.n, .int .i64 x.m, .int .i64 x.b, .int .i64 x.a]) rfl rfl (zbo 40 (.tmp 3) ⟨B3, 0, none⟩ _ rfl (by simp [Act.eval, q3]) hl) ⟨_, rfl, (fun h => by cases h), rfl, hI, fun _ _ _ h => h⟩
  ·intro bb w' hf hI hA
   obtain ⟨a1, c1, a2, c2, hv, hN⟩ := hA 1 (by kernel_rfl) (.inr rfl)
   have q26 : bb.tmps[26]? = some _ := hf.tmp (k := 1) rfl (by rw [ha]; decide) hv
   have q27 : bb.tmps[27]? = some _ := hf.tmp (k := 2) rfl (by rw [ha]; decide) (hA 2 (by kernel_rfl) (.inl rfl))
   have hC := hcall w' a1 c1 a2 c2 hN hI.2.2.2.2
   refine Rg.zdk (o := ⟨some 28, Op.call { callee := Callee.value (Operand.func 47), args := #[Operand.tmp 26, Operand.tmp 27], argTypes := _ }, _, _, _, _⟩) rfl rfl (by clear hA HS hcall hI hR hC hN hv hdie; simp only [execOp, resolve]; go_simp) hC ?_
   rintro e w2 ⟨rfl, hb⟩
   exact ⟨_, rfl, hdie _ _ hf (onto hI.1 hb)⟩
  ·intro bb w' hf hI hA
   exact (hA 3 (by kernel_rfl) (.inr rfl)).elim
def FH7y (ao ad : Option Addr) (n cap m dcap : Nat) (os : List Od) (ds : List Ds) (os2 : List Od) (ds2 : List Ds) (x : Dd) (B4 base : Nat) (i9 : Nat) (v : Value) (w : World) : Prop :=
 match i9 with
 | 0 => v = .agg #[.slice ao n cap, .slice ad m dcap]
 | 1 => ∃ a1 c1 a2 c2, v = .agg #[.slice a1 os.length c1, .slice a2 ds.length c2] /\ Cp.zo w base (.slice a1 os.length c1) (.slice a2 ds.length c2) os ds
 | 2 => v = .agg #[.int .i64 x.k, .int .i64 x.o.id, .int .i64 x.o.p, .int .i64 x.o.d, .int .i64 x.o.n, .int .i64 x.o.f, .int .i64 x.o.e, .int .i64 x.o.c, .int .i64 x.o.s, .bool x.o.two, .int .i64 x.id, .int .i64 x.p, .int .i64 x.d, .int .i64 x.n, .int .i64 x.m, .int .i64 x.b, .int .i64 x.a]
 | 3 => ∃ v1 v2, v = .agg #[v1, v2] /\ Cp.zo w base v1 v2 os2 ds2
 | 4 => ∃ v1 v2, PB w B4 #[v1, v2] 27 /\ Cp.zo w base v1 v2 os2 ds2
 | _ => True
theorem zd2 : (Rg.opsOf Tryz.f28 7).size = 5 := by kernel_rfl
theorem dstH7y : Rg.ja (Rg.opsOf Tryz.f28 7) 4 = none := by kernel_rfl
set_option maxRecDepth 20000 in
set_option maxHeartbeats 16000000 in
theorem regH7y {Q : Exit -> Act -> World -> Prop} {a : Act} {w0 w9 : World} {B2 B3 B4 : Nat} {ao ad : Option Addr} {n cap m dcap : Nat} {os : List Od} {ds : List Ds} {os2 : List Od} {ds2 : List Ds} {x : Dd} {c : Int} (ha : a.tmps.size = 33) (k2 : a.tmps[2]? = some (.pointer (some ⟨B2, 0, none⟩))) (k3 : a.tmps[3]? = some (.pointer (some ⟨B3, 0, none⟩))) (k4 : a.tmps[4]? = some (.pointer (some ⟨B4, 0, none⟩)))
  (p2 : PB w9 B2 #[.slice ao n cap, .slice ad m dcap] 27) (p3 : PB w9 B3 #[.int .i64 x.k, .int .i64 x.o.id, .int .i64 x.o.p, .int .i64 x.o.d, .int .i64 x.o.n, .int .i64 x.o.f, .int .i64 x.o.e, .int .i64 x.o.c, .int .i64 x.o.s, .bool x.o.two, .int .i64 x.id, .int .i64 x.p, .int .i64 x.d, .int .i64 x.n, .int .i64 x.m, .int .i64 x.b, .int .i64 x.a] 40) (p4 : PB w9 B4 #[.slice none 0 0, .slice none 0 0] 27) (hb9 : Below w0.heap.size w0 w9) (l4 : w0.heap.size <= B4) (hR : Cp.CRw w0 (.slice ao n cap) (.slice ad m dcap) os ds) (hn : os.length <= 1048576) (hm : ds.length <= 1048576) (h24 : B4 ≠ B2) (h34 : B4 ≠ B3)
  (hcall : ∀ W a1 c1 a2 c2, Cp.zo W w9.heap.size (.slice a1 os.length c1) (.slice a2 ds.length c2) os ds -> w9.heap.size <= W.heap.size -> Calls Tryz.prog 47 #[.agg #[.slice a1 os.length c1, .slice a2 ds.length c2], .agg #[.int .i64 x.k, .int .i64 x.o.id, .int .i64 x.o.p, .int .i64 x.o.d, .int .i64 x.o.n, .int .i64 x.o.f, .int .i64 x.o.e, .int .i64 x.o.c, .int .i64 x.o.s, .bool x.o.two, .int .i64 x.id, .int .i64 x.p, .int .i64 x.d, .int .i64 x.n, .int .i64 x.m, .int .i64 x.b, .int .i64 x.a]] W fun e w' => ∃ v1 v2, e = .returned (.agg #[v1, v2]) /\ Cp.zo w' w9.heap.size v1 v2 os2 ds2 /\ Below w9.heap.size W w')
  (hend : ∀ b' w' v1 v2, Rg.Fr (Rg.opsOf Tryz.f28 7) a b' -> Below w0.heap.size w0 w' -> PB w' B4 #[v1, v2] 27 -> Cp.zo w' w9.heap.size v1 v2 os2 ds2 -> Q .normal b' w') :
  (Code.region 7 (Rg.opsOf Tryz.f28 7) true).wp Tryz.prog Q a w9 := by
 have l2 := p2.lt
 have l3 := p3.lt
 have l44 := p4.lt
 have z9 := hb9.size
 refine Rg.zas (by kernel_rfl) (fun w' => Below w0.heap.size w0 w' /\ PB w' B2 #[.slice ao n cap, .slice ad m dcap] 27 /\ PB w' B3 #[.int .i64 x.k, .int .i64 x.o.id, .int .i64 x.o.p, .int .i64 x.o.d, .int .i64 x.o.n, .int .i64 x.o.f, .int .i64 x.o.e, .int .i64 x.o.c, .int .i64 x.o.s, .bool x.o.two, .int .i64 x.id, .int .i64 x.p, .int .i64 x.d, .int .i64 x.n, .int .i64 x.m, .int .i64 x.b, .int .i64 x.a] 40 /\ (∃ z1 z2, PB w' B4 #[z1, z2] 27) /\ w9.heap.size <= w'.heap.size) (FH7y ao ad n cap m dcap os ds os2 ds2 x B4 w9.heap.size) (fun k => match k with | 1 => some 3 | 3 => some 4 | _ => none) (by rw [ha, zd2]; kernel_rfl) ⟨jq hb9, p2, p3, ⟨_, _, p4⟩, Nat.le_refl _⟩ ?_ ?_
 case refine_2 =>
  intro b' w' hf hI hA
  rw [zd2] at hA
  obtain ⟨v1, v2, h1, h2⟩ := hA 4 (by decide) rfl
  exact hend b' w' v1 v2 hf hI.1 h1 h2
 case refine_1 =>
  clear hend p4
  have HS : ∀ {w w' : World}, Below w.heap.size w w' -> ∀ k9 y9, k9 ≠ 4 -> FH7y ao ad n cap m dcap os ds os2 ds2 x B4 w9.heap.size k9 y9 w -> FH7y ao ad n cap m dcap os ds os2 ds2 x B4 w9.heap.size k9 y9 w' := fun hb k9 y9 h4 h => by
   unfold FH7y at *
   split at h <;> first | exact h | exact absurd rfl h4 | (obtain ⟨a1, c1, a2, c2, h1, h2⟩ := h; exact ⟨a1, c1, a2, c2, h1, h2.below hb⟩) | (obtain ⟨v1, v2, h1, h2⟩ := h; exact ⟨v1, v2, h1, h2.below hb⟩)
  intro i' hi'
  rw [zd2] at hi'
  rcases (show i' = 0 ∨ i' = 1 ∨ i' = 2 ∨ i' = 3 ∨ i' = 4 by omega) with rfl | rfl | rfl | rfl | rfl
  ·intro bb w' hf hI hA
   have q2 := hf.kept (s := 2) (by rw [zd2]; kernel_rfl) k2
   obtain ⟨e0, e1⟩ := hI.2.1.two
   exact Rg.zf (o := ⟨some 25, Op.load 27 (Operand.tmp 2), _, _, _, _⟩) (x := .agg #[.slice ao n cap, .slice ad m dcap]) rfl rfl (by clear hA HS hcall hI hR; simp only [execOp]; go_simp) ⟨_, rfl, (fun h => by cases h), rfl, hI, fun _ _ _ h => h⟩
  ·intro bb w' hf hI hA
   have q25 : bb.tmps[25]? = some _ := hf.tmp (k := 0) rfl (by rw [ha]; decide) (hA 0 (by kernel_rfl) (.inl rfl))
   obtain ⟨z1, z2, hz⟩ := hI.2.2.2.1
   refine Rg.jr (o := ⟨some 26, Op.call { callee := Callee.value (Operand.func 42), args := #[Operand.tmp 25], argTypes := _ }, _, _, _, _⟩) rfl rfl (by clear hA HS hcall hI hR hz; simp only [execOp, resolve]; go_simp) (Cp.zdf ao ad n cap m dcap os ds w' (hR.below hI.1) hn hm) ?_
   rintro e w2 ⟨a1, c1, a2, c2, rfl, hN, hb⟩
   exact ⟨_, rfl, _, rfl, (fun h => by cases h), ⟨a1, c1, a2, c2, rfl, zav hN hI.2.2.2.2⟩, ⟨onto hI.1 hb, hI.2.1.below hb, hI.2.2.1.below hb, ⟨_, _, hz.below hb⟩, Nat.le_trans hI.2.2.2.2 hb.size⟩, fun k9 y9 hd h => HS hb k9 y9 (fun e => by subst e; revert hd; decide +kernel) h⟩
  ·intro bb w' hf hI hA
   have q3 := hf.kept (s := 3) (by rw [zd2]; kernel_rfl) k3
   have hl := run_loadVar_row (P := Tryz.prog) w' B3 _ 40 #[.int .i64 x.k, .int .i64 x.o.id, .int .i64 x.o.p, .int .i64 x.o.d, .int .i64 x.o.n, .int .i64 x.o.f, .int .i64 x.o.e, .int .i64 x.o.c, .int .i64 x.o.s, .bool x.o.two, .int .i64 x.id, .int .i64 x.p, .int .i64 x.d, .int .i64 x.n, .int .i64 x.m, .int .i64 x.b, .int .i64 x.a] (0, 0) _ hI.2.2.1 Tryz.underlying40 rfl (by kernel_rfl)
   exact Rg.zf (o := ⟨some 27, Op.load 40 (Operand.tmp 3), _, _, _, _⟩) (x := .agg #[.int .i64 x.k, .int .i64 x.o.id, .int .i64 x.o.p, .int .i64 x.o.d, .int .i64 x.o.n, .int .i64 x.o.f, .int .i64 x.o.e, .int .i64 x.o.c, .int .i64 x.o.s, .bool x.o.two, .int .i64 x.id, .int .i64 x.p, .int .i64 x.d, .int .i64 x.n, .int .i64 x.m, .int .i64 x.b, .int .i64 x.a]) rfl rfl (zbo 40 (.tmp 3) ⟨B3, 0, none⟩ _ rfl (by simp [Act.eval, q3]) hl) ⟨_, rfl, (fun h => by cases h), rfl, hI, fun _ _ _ h => h⟩
  ·intro bb w' hf hI hA
   obtain ⟨a1, c1, a2, c2, hv, hN⟩ := hA 1 (by kernel_rfl) (.inr rfl)
   have q26 : bb.tmps[26]? = some _ := hf.tmp (k := 1) rfl (by rw [ha]; decide) hv
   have q27 : bb.tmps[27]? = some _ := hf.tmp (k := 2) rfl (by rw [ha]; decide) (hA 2 (by kernel_rfl) (.inl rfl))
   have hC := hcall w' a1 c1 a2 c2 hN hI.2.2.2.2
   obtain ⟨z1, z2, hz⟩ := hI.2.2.2.1
   refine Rg.jr (o := ⟨some 28, Op.call { callee := Callee.value (Operand.func 47), args := #[Operand.tmp 26, Operand.tmp 27], argTypes := _ }, _, _, _, _⟩) rfl rfl (by clear hA HS hcall hI hR hC hN hv hz; simp only [execOp, resolve]; go_simp) hC ?_
   rintro e w2 ⟨v1, v2, rfl, hN2, hb⟩
   refine ⟨_, rfl, _, rfl, (fun h => by cases h), ⟨v1, v2, rfl, hN2⟩, ⟨hI.1.trans (hb.mono z9), hI.2.1.under hb l2, hI.2.2.1.under hb l3, ⟨_, _, hz.under hb l44⟩, Nat.le_trans hI.2.2.2.2 hb.size⟩, fun k9 y9 hd h => ?_⟩
   unfold FH7y at *
   split at h <;> first | exact h | (exfalso; revert hd; decide +kernel)
  ·intro bb w' hf hI hA
   have q4 := hf.kept (s := 4) (by rw [zd2]; kernel_rfl) k4
   obtain ⟨v1, v2, hv, hN⟩ := hA 3 (by kernel_rfl) (.inr rfl)
   obtain ⟨a1, c1, a2, c2, e1', e2'⟩ := hN.form
   subst e1' e2'
   have q28 : bb.tmps[28]? = some _ := hf.tmp (k := 3) rfl (by rw [ha]; decide) hv
   obtain ⟨z1, z2, hz⟩ := hI.2.2.2.1
   have e0 : w'.cell? ⟨B4, 0, none⟩ = some z1 := hz.cell 0
   have e1 : w'.cell? ⟨B4, 1, none⟩ = some z2 := hz.cell 1
   have f0 := hz.frozen 0
   have f1 := hz.frozen 1
   have p5 : PB ((w'.setCell ⟨B4, 0, none⟩ (.slice a1 os2.length c1)).setCell ⟨B4, 1, none⟩ (.slice a2 ds2.length c2)) B4 #[.slice a1 os2.length c1, .slice a2 ds2.length c2] 27 := (hz.set 0 _).set 1 _
   have N5 : Cp.zo ((w'.setCell ⟨B4, 0, none⟩ (.slice a1 os2.length c1)).setCell ⟨B4, 1, none⟩ (.slice a2 ds2.length c2)) w9.heap.size (.slice a1 os2.length c1) (.slice a2 ds2.length c2) os2 ds2 := ⟨Cp.jo (Cp.jo hN.1 (jb hN.1 hz (by decide)) _ _) (jb hN.1 hz (by decide)) _ _, Cp.jo (Cp.jo hN.2 (jb hN.2 hz (by decide)) _ _) (jb hN.2 hz (by decide)) _ _⟩
   refine Rg.zaq (o := ⟨none, Op.store 27 (Operand.tmp 4) (Operand.tmp 28), _, _, _, _⟩) (w' := (w'.setCell ⟨B4, 0, none⟩ (.slice a1 os2.length c1)).setCell ⟨B4, 1, none⟩ (.slice a2 ds2.length c2)) rfl rfl ?_ ⟨undef, (by rw [dstH7y]), (fun _ => ⟨_, _, p5, N5⟩), ⟨_, _, p5, N5⟩, ⟨(hI.1.setCell (p := ⟨B4, 0, none⟩) l4 _).setCell (p := ⟨B4, 1, none⟩) l4 _, (hI.2.1.far h24 _ _).far h24 _ _, (hI.2.2.1.far h34 _ _).far h34 _ _, ⟨_, _, p5⟩, by simpa using hI.2.2.2.2⟩, fun k9 y9 hd h => ?_⟩
   ·clear hA HS hcall hI hR hN hv hz p5 N5; simp only [execOp]; go_simp
   ·unfold FH7y at *
    split at h <;> first | exact h | (exfalso; revert hd; decide +kernel)
theorem layH7y {a b : Act} (hf : Rg.Fr (Rg.opsOf Tryz.f28 7) a b) : b = Rg.fl (Rg.opsOf Tryz.f28 7) b 0 [some 25, some 26, some 27, some 28, none] a := Rg.ql _ (by kernel_rfl) hf
def FH8d (ao ad : Option Addr) (n cap m dcap : Nat) (os : List Od) (ds : List Ds) (os2 : List Od) (ds2 : List Ds) (x : Dd) (B4 base : Nat) (i9 : Nat) (v : Value) (w : World) : Prop :=
 match i9 with
 | 0 => v = .agg #[.slice ao n cap, .slice ad m dcap]
 | 1 => ∃ a1 c1 a2 c2, v = .agg #[.slice a1 os.length c1, .slice a2 ds.length c2] /\ Cp.zo w base (.slice a1 os.length c1) (.slice a2 ds.length c2) os ds
 | 2 => v = .agg #[.int .i64 x.k, .int .i64 x.o.id, .int .i64 x.o.p, .int .i64 x.o.d, .int .i64 x.o.n, .int .i64 x.o.f, .int .i64 x.o.e, .int .i64 x.o.c, .int .i64 x.o.s, .bool x.o.two, .int .i64 x.id, .int .i64 x.p, .int .i64 x.d, .int .i64 x.n, .int .i64 x.m, .int .i64 x.b, .int .i64 x.a]
 | 3 => False
 | 4 => False
 | _ => True
theorem zei : (Rg.opsOf Tryz.f28 8).size = 5 := by kernel_rfl
set_option maxRecDepth 20000 in
set_option maxHeartbeats 16000000 in
theorem regH8d {Q : Exit -> Act -> World -> Prop} {a : Act} {w0 w9 : World} {B2 B3 B4 : Nat} {ao ad : Option Addr} {n cap m dcap : Nat} {os : List Od} {ds : List Ds} {x : Dd} {c : Int} (ha : a.tmps.size = 33) (k2 : a.tmps[2]? = some (.pointer (some ⟨B2, 0, none⟩))) (k3 : a.tmps[3]? = some (.pointer (some ⟨B3, 0, none⟩))) (k4 : a.tmps[4]? = some (.pointer (some ⟨B4, 0, none⟩)))
  (p2 : PB w9 B2 #[.slice ao n cap, .slice ad m dcap] 27) (p3 : PB w9 B3 #[.int .i64 x.k, .int .i64 x.o.id, .int .i64 x.o.p, .int .i64 x.o.d, .int .i64 x.o.n, .int .i64 x.o.f, .int .i64 x.o.e, .int .i64 x.o.c, .int .i64 x.o.s, .bool x.o.two, .int .i64 x.id, .int .i64 x.p, .int .i64 x.d, .int .i64 x.n, .int .i64 x.m, .int .i64 x.b, .int .i64 x.a] 40) (p4 : PB w9 B4 #[.slice none 0 0, .slice none 0 0] 27) (hb9 : Below w0.heap.size w0 w9) (l4 : w0.heap.size <= B4) (hR : Cp.CRw w0 (.slice ao n cap) (.slice ad m dcap) os ds) (hn : os.length <= 1048576) (hm : ds.length <= 1048576)
  (hcall : ∀ W a1 c1 a2 c2, Cp.zo W w9.heap.size (.slice a1 os.length c1) (.slice a2 ds.length c2) os ds -> w9.heap.size <= W.heap.size -> Calls Tryz.prog 48 #[.agg #[.slice a1 os.length c1, .slice a2 ds.length c2], .agg #[.int .i64 x.k, .int .i64 x.o.id, .int .i64 x.o.p, .int .i64 x.o.d, .int .i64 x.o.n, .int .i64 x.o.f, .int .i64 x.o.e, .int .i64 x.o.c, .int .i64 x.o.s, .bool x.o.two, .int .i64 x.id, .int .i64 x.p, .int .i64 x.d, .int .i64 x.n, .int .i64 x.m, .int .i64 x.b, .int .i64 x.a]] W fun e w' => e = .panicked [{ v := kz x.k c, recovered := false }] /\ Below W.heap.size W w')
  (hdie : ∀ b' w', Rg.Fr (Rg.opsOf Tryz.f28 8) a b' -> Below w0.heap.size w0 w' -> Q (.panic [{ v := kz x.k c, recovered := false }]) b' w') :
  (Code.region 8 (Rg.opsOf Tryz.f28 8) true).wp Tryz.prog Q a w9 := by
 have l2 := p2.lt
 have l3 := p3.lt
 have l44 := p4.lt
 have z9 := hb9.size
 refine Rg.zas (by kernel_rfl) (fun w' => Below w0.heap.size w0 w' /\ PB w' B2 #[.slice ao n cap, .slice ad m dcap] 27 /\ PB w' B3 #[.int .i64 x.k, .int .i64 x.o.id, .int .i64 x.o.p, .int .i64 x.o.d, .int .i64 x.o.n, .int .i64 x.o.f, .int .i64 x.o.e, .int .i64 x.o.c, .int .i64 x.o.s, .bool x.o.two, .int .i64 x.id, .int .i64 x.p, .int .i64 x.d, .int .i64 x.n, .int .i64 x.m, .int .i64 x.b, .int .i64 x.a] 40 /\ (∃ z1 z2, PB w' B4 #[z1, z2] 27) /\ w9.heap.size <= w'.heap.size) (FH8d ao ad n cap m dcap os ds os ds x B4 w9.heap.size) (fun k => match k with | 1 => some 3 | 3 => some 4 | _ => none) (by rw [ha, zei]; kernel_rfl) ⟨jq hb9, p2, p3, ⟨_, _, p4⟩, Nat.le_refl _⟩ ?_ ?_
 case refine_2 =>
  intro b' w' hf hI hA
  rw [zei] at hA
  exact (hA 4 (by decide) rfl).elim
 case refine_1 =>
  clear p4
  have HS : ∀ {w w' : World}, Below w.heap.size w w' -> ∀ k9 y9, k9 ≠ 4 -> FH8d ao ad n cap m dcap os ds os ds x B4 w9.heap.size k9 y9 w -> FH8d ao ad n cap m dcap os ds os ds x B4 w9.heap.size k9 y9 w' := fun hb k9 y9 h4 h => by
   unfold FH8d at *
   split at h <;> first | exact h | exact absurd rfl h4 | (obtain ⟨a1, c1, a2, c2, h1, h2⟩ := h; exact ⟨a1, c1, a2, c2, h1, h2.below hb⟩) | (obtain ⟨v1, v2, h1, h2⟩ := h; exact ⟨v1, v2, h1, h2.below hb⟩)
  intro i' hi'
  rw [zei] at hi'
  rcases (show i' = 0 ∨ i' = 1 ∨ i' = 2 ∨ i' = 3 ∨ i' = 4 by omega) with rfl | rfl | rfl | rfl | rfl
  ·intro bb w' hf hI hA
   have q2 := hf.kept (s := 2) (by rw [zei]; kernel_rfl) k2
   obtain ⟨e0, e1⟩ := hI.2.1.two
   exact Rg.zf (o := ⟨some 29, Op.load 27 (Operand.tmp 2), _, _, _, _⟩) (x := .agg #[.slice ao n cap, .slice ad m dcap]) rfl rfl (by clear hA HS hcall hI hR; simp only [execOp]; go_simp) ⟨_, rfl, (fun h => by cases h), rfl, hI, fun _ _ _ h => h⟩
  ·intro bb w' hf hI hA
   have q29 : bb.tmps[29]? = some _ := hf.tmp (k := 0) rfl (by rw [ha]; decide) (hA 0 (by kernel_rfl) (.inl rfl))
   obtain ⟨z1, z2, hz⟩ := hI.2.2.2.1
   refine Rg.jr (o := ⟨some 30, Op.call { callee := Callee.value (Operand.func 42), args := #[Operand.tmp 29], argTypes := _ }, _, _, _, _⟩) rfl rfl (by clear hA HS hcall hI hR hz; simp only [execOp, resolve]; go_simp) (Cp.zdf ao ad n cap m dcap os ds w' (hR.below hI.1) hn hm) ?_
   rintro e w2 ⟨a1, c1, a2, c2, rfl, hN, hb⟩
   exact ⟨_, rfl, _, rfl, (fun h => by cases h), ⟨a1, c1, a2, c2, rfl, zav hN hI.2.2.2.2⟩, ⟨onto hI.1 hb, hI.2.1.below hb, hI.2.2.1.below hb, ⟨_, _, hz.below hb⟩, Nat.le_trans hI.2.2.2.2 hb.size⟩, fun k9 y9 hd h => HS hb k9 y9 (fun e => by subst e; revert hd; decide +kernel) h⟩
  ·intro bb w' hf hI hA
   have q3 := hf.kept (s := 3) (by rw [zei]; kernel_rfl) k3
   have hl := run_loadVar_row (P := Tryz.prog) w' B3 _ 40 #[.int .i64 x.k, .int .i64 x.o.id, .int .i64 x.o.p, .int .i64 x.o.d, .int .i64 x.o.n, .int .i64 x.o.f, .int .i64 x.o.e, .int .i64 x.o.c, .int .i64 x.o.s, .bool x.o.two, .int .i64 x.id, .int .i64 x.p, .int .i64 x.d, .int .i64 x.n, .int .i64 x.m, .int .i64 x.b, .int .i64 x.a] (0, 0) _ hI.2.2.1 Tryz.underlying40 rfl (by kernel_rfl)
   exact Rg.zf (o := ⟨some 31, Op.load 40 (Operand.tmp 3), _, _, _, _⟩) (x := .agg #[.int .i64 x.k, .int .i64 x.o.id, .int .i64 x.o.p, .int .i64 x.o.d, .int .i64 x.o.n, .int .i64 x.o.f, .int .i64 x.o.e, .int .i64 x.o.c, .int .i64 x.o.s, .bool x.o.two, .int .i64 x.id, .int .i64 x.p, .int .i64 x.d, .int .i64 x.n, .int .i64 x.m, .int .i64 x.b, .int .i64 x.a]) rfl rfl (zbo 40 (.tmp 3) ⟨B3, 0, none⟩ _ rfl (by simp [Act.eval, q3]) hl) ⟨_, rfl, (fun h => by cases h), rfl, hI, fun _ _ _ h => h⟩
  ·intro bb w' hf hI hA
   obtain ⟨a1, c1, a2, c2, hv, hN⟩ := hA 1 (by kernel_rfl) (.inr rfl)
   have q30 : bb.tmps[30]? = some _ := hf.tmp (k := 1) rfl (by rw [ha]; decide) hv
   have q31 : bb.tmps[31]? = some _ := hf.tmp (k := 2) rfl (by rw [ha]; decide) (hA 2 (by kernel_rfl) (.inl rfl))
   have hC := hcall w' a1 c1 a2 c2 hN hI.2.2.2.2
   refine Rg.zdk (o := ⟨some 32, Op.call { callee := Callee.value (Operand.func 48), args := #[Operand.tmp 30, Operand.tmp 31], argTypes := _ }, _, _, _, _⟩) rfl rfl (by clear hA HS hcall hI hR hC hN hv hdie; simp only [execOp, resolve]; go_simp) hC ?_
   rintro e w2 ⟨rfl, hb⟩
   exact ⟨_, rfl, hdie _ _ hf (onto hI.1 hb)⟩
  ·intro bb w' hf hI hA
   exact (hA 3 (by kernel_rfl) (.inr rfl)).elim
def FH8y (ao ad : Option Addr) (n cap m dcap : Nat) (os : List Od) (ds : List Ds) (os2 : List Od) (ds2 : List Ds) (x : Dd) (B4 base : Nat) (i9 : Nat) (v : Value) (w : World) : Prop :=
 match i9 with
 | 0 => v = .agg #[.slice ao n cap, .slice ad m dcap]
 | 1 => ∃ a1 c1 a2 c2, v = .agg #[.slice a1 os.length c1, .slice a2 ds.length c2] /\ Cp.zo w base (.slice a1 os.length c1) (.slice a2 ds.length c2) os ds
 | 2 => v = .agg #[.int .i64 x.k, .int .i64 x.o.id, .int .i64 x.o.p, .int .i64 x.o.d, .int .i64 x.o.n, .int .i64 x.o.f, .int .i64 x.o.e, .int .i64 x.o.c, .int .i64 x.o.s, .bool x.o.two, .int .i64 x.id, .int .i64 x.p, .int .i64 x.d, .int .i64 x.n, .int .i64 x.m, .int .i64 x.b, .int .i64 x.a]
 | 3 => ∃ v1 v2, v = .agg #[v1, v2] /\ Cp.zo w base v1 v2 os2 ds2
 | 4 => ∃ v1 v2, PB w B4 #[v1, v2] 27 /\ Cp.zo w base v1 v2 os2 ds2
 | _ => True
theorem zdw : (Rg.opsOf Tryz.f28 8).size = 5 := by kernel_rfl
theorem dstH8y : Rg.ja (Rg.opsOf Tryz.f28 8) 4 = none := by kernel_rfl
set_option maxRecDepth 20000 in
set_option maxHeartbeats 16000000 in
theorem regH8y {Q : Exit -> Act -> World -> Prop} {a : Act} {w0 w9 : World} {B2 B3 B4 : Nat} {ao ad : Option Addr} {n cap m dcap : Nat} {os : List Od} {ds : List Ds} {os2 : List Od} {ds2 : List Ds} {x : Dd} {c : Int} (ha : a.tmps.size = 33) (k2 : a.tmps[2]? = some (.pointer (some ⟨B2, 0, none⟩))) (k3 : a.tmps[3]? = some (.pointer (some ⟨B3, 0, none⟩))) (k4 : a.tmps[4]? = some (.pointer (some ⟨B4, 0, none⟩)))
  (p2 : PB w9 B2 #[.slice ao n cap, .slice ad m dcap] 27) (p3 : PB w9 B3 #[.int .i64 x.k, .int .i64 x.o.id, .int .i64 x.o.p, .int .i64 x.o.d, .int .i64 x.o.n, .int .i64 x.o.f, .int .i64 x.o.e, .int .i64 x.o.c, .int .i64 x.o.s, .bool x.o.two, .int .i64 x.id, .int .i64 x.p, .int .i64 x.d, .int .i64 x.n, .int .i64 x.m, .int .i64 x.b, .int .i64 x.a] 40) (p4 : PB w9 B4 #[.slice none 0 0, .slice none 0 0] 27) (hb9 : Below w0.heap.size w0 w9) (l4 : w0.heap.size <= B4) (hR : Cp.CRw w0 (.slice ao n cap) (.slice ad m dcap) os ds) (hn : os.length <= 1048576) (hm : ds.length <= 1048576) (h24 : B4 ≠ B2) (h34 : B4 ≠ B3)
  (hcall : ∀ W a1 c1 a2 c2, Cp.zo W w9.heap.size (.slice a1 os.length c1) (.slice a2 ds.length c2) os ds -> w9.heap.size <= W.heap.size -> Calls Tryz.prog 48 #[.agg #[.slice a1 os.length c1, .slice a2 ds.length c2], .agg #[.int .i64 x.k, .int .i64 x.o.id, .int .i64 x.o.p, .int .i64 x.o.d, .int .i64 x.o.n, .int .i64 x.o.f, .int .i64 x.o.e, .int .i64 x.o.c, .int .i64 x.o.s, .bool x.o.two, .int .i64 x.id, .int .i64 x.p, .int .i64 x.d, .int .i64 x.n, .int .i64 x.m, .int .i64 x.b, .int .i64 x.a]] W fun e w' => ∃ v1 v2, e = .returned (.agg #[v1, v2]) /\ Cp.zo w' w9.heap.size v1 v2 os2 ds2 /\ Below w9.heap.size W w')
  (hend : ∀ b' w' v1 v2, Rg.Fr (Rg.opsOf Tryz.f28 8) a b' -> Below w0.heap.size w0 w' -> PB w' B4 #[v1, v2] 27 -> Cp.zo w' w9.heap.size v1 v2 os2 ds2 -> Q .normal b' w') :
  (Code.region 8 (Rg.opsOf Tryz.f28 8) true).wp Tryz.prog Q a w9 := by
 have l2 := p2.lt
 have l3 := p3.lt
 have l44 := p4.lt
 have z9 := hb9.size
 refine Rg.zas (by kernel_rfl) (fun w' => Below w0.heap.size w0 w' /\ PB w' B2 #[.slice ao n cap, .slice ad m dcap] 27 /\ PB w' B3 #[.int .i64 x.k, .int .i64 x.o.id, .int .i64 x.o.p, .int .i64 x.o.d, .int .i64 x.o.n, .int .i64 x.o.f, .int .i64 x.o.e, .int .i64 x.o.c, .int .i64 x.o.s, .bool x.o.two, .int .i64 x.id, .int .i64 x.p, .int .i64 x.d, .int .i64 x.n, .int .i64 x.m, .int .i64 x.b, .int .i64 x.a] 40 /\ (∃ z1 z2, PB w' B4 #[z1, z2] 27) /\ w9.heap.size <= w'.heap.size) (FH8y ao ad n cap m dcap os ds os2 ds2 x B4 w9.heap.size) (fun k => match k with | 1 => some 3 | 3 => some 4 | _ => none) (by rw [ha, zdw]; kernel_rfl) ⟨jq hb9, p2, p3, ⟨_, _, p4⟩, Nat.le_refl _⟩ ?_ ?_
 case refine_2 =>
  intro b' w' hf hI hA
  rw [zdw] at hA
  obtain ⟨v1, v2, h1, h2⟩ := hA 4 (by decide) rfl
  exact hend b' w' v1 v2 hf hI.1 h1 h2
 case refine_1 =>
  clear hend p4
  have HS : ∀ {w w' : World}, Below w.heap.size w w' -> ∀ k9 y9, k9 ≠ 4 -> FH8y ao ad n cap m dcap os ds os2 ds2 x B4 w9.heap.size k9 y9 w -> FH8y ao ad n cap m dcap os ds os2 ds2 x B4 w9.heap.size k9 y9 w' := fun hb k9 y9 h4 h => by
   unfold FH8y at *
   split at h <;> first | exact h | exact absurd rfl h4 | (obtain ⟨a1, c1, a2, c2, h1, h2⟩ := h; exact ⟨a1, c1, a2, c2, h1, h2.below hb⟩) | (obtain ⟨v1, v2, h1, h2⟩ := h; exact ⟨v1, v2, h1, h2.below hb⟩)
  intro i' hi'
  rw [zdw] at hi'
  rcases (show i' = 0 ∨ i' = 1 ∨ i' = 2 ∨ i' = 3 ∨ i' = 4 by omega) with rfl | rfl | rfl | rfl | rfl
  ·intro bb w' hf hI hA
   have q2 := hf.kept (s := 2) (by rw [zdw]; kernel_rfl) k2
   obtain ⟨e0, e1⟩ := hI.2.1.two
   exact Rg.zf (o := ⟨some 29, Op.load 27 (Operand.tmp 2), _, _, _, _⟩) (x := .agg #[.slice ao n cap, .slice ad m dcap]) rfl rfl (by clear hA HS hcall hI hR; simp only [execOp]; go_simp) ⟨_, rfl, (fun h => by cases h), rfl, hI, fun _ _ _ h => h⟩
  ·intro bb w' hf hI hA
   have q29 : bb.tmps[29]? = some _ := hf.tmp (k := 0) rfl (by rw [ha]; decide) (hA 0 (by kernel_rfl) (.inl rfl))
   obtain ⟨z1, z2, hz⟩ := hI.2.2.2.1
   refine Rg.jr (o := ⟨some 30, Op.call { callee := Callee.value (Operand.func 42), args := #[Operand.tmp 29], argTypes := _ }, _, _, _, _⟩) rfl rfl (by clear hA HS hcall hI hR hz; simp only [execOp, resolve]; go_simp) (Cp.zdf ao ad n cap m dcap os ds w' (hR.below hI.1) hn hm) ?_
   rintro e w2 ⟨a1, c1, a2, c2, rfl, hN, hb⟩
   exact ⟨_, rfl, _, rfl, (fun h => by cases h), ⟨a1, c1, a2, c2, rfl, zav hN hI.2.2.2.2⟩, ⟨onto hI.1 hb, hI.2.1.below hb, hI.2.2.1.below hb, ⟨_, _, hz.below hb⟩, Nat.le_trans hI.2.2.2.2 hb.size⟩, fun k9 y9 hd h => HS hb k9 y9 (fun e => by subst e; revert hd; decide +kernel) h⟩
  ·intro bb w' hf hI hA
   have q3 := hf.kept (s := 3) (by rw [zdw]; kernel_rfl) k3
   have hl := run_loadVar_row (P := Tryz.prog) w' B3 _ 40 #[.int .i64 x.k, .int .i64 x.o.id, .int .i64 x.o.p, .int .i64 x.o.d, .int .i64 x.o.n, .int .i64 x.o.f, .int .i64 x.o.e, .int .i64 x.o.c, .int .i64 x.o.s, .bool x.o.two, .int .i64 x.id, .int .i64 x.p, .int .i64 x.d, .int .i64 x.n, .int .i64 x.m, .int .i64 x.b, .int .i64 x.a] (0, 0) _ hI.2.2.1 Tryz.underlying40 rfl (by kernel_rfl)
   exact Rg.zf (o := ⟨some 31, Op.load 40 (Operand.tmp 3), _, _, _, _⟩) (x := .agg #[.int .i64 x.k, .int .i64 x.o.id, .int .i64 x.o.p, .int .i64 x.o.d, .int .i64 x.o.n, .int .i64 x.o.f, .int .i64 x.o.e, .int .i64 x.o.c, .int .i64 x.o.s, .bool x.o.two, .int .i64 x.id, .int .i64 x.p, .int .i64 x.d, .int .i64 x.n, .int .i64 x.m, .int .i64 x.b, .int .i64 x.a]) rfl rfl (zbo 40 (.tmp 3) ⟨B3, 0, none⟩ _ rfl (by simp [Act.eval, q3]) hl) ⟨_, rfl, (fun h => by cases h), rfl, hI, fun _ _ _ h => h⟩
  ·intro bb w' hf hI hA
   obtain ⟨a1, c1, a2, c2, hv, hN⟩ := hA 1 (by kernel_rfl) (.inr rfl)
   have q30 : bb.tmps[30]? = some _ := hf.tmp (k := 1) rfl (by rw [ha]; decide) hv
   have q31 : bb.tmps[31]? = some _ := hf.tmp (k := 2) rfl (by rw [ha]; decide) (hA 2 (by kernel_rfl) (.inl rfl))
   have hC := hcall w' a1 c1 a2 c2 hN hI.2.2.2.2
   obtain ⟨z1, z2, hz⟩ := hI.2.2.2.1
   refine Rg.jr (o := ⟨some 32, Op.call { callee := Callee.value (Operand.func 48), args := #[Operand.tmp 30, Operand.tmp 31], argTypes := _ }, _, _, _, _⟩) rfl rfl (by clear hA HS hcall hI hR hC hN hv hz; simp only [execOp, resolve]; go_simp) hC ?_
   rintro e w2 ⟨v1, v2, rfl, hN2, hb⟩
   refine ⟨_, rfl, _, rfl, (fun h => by cases h), ⟨v1, v2, rfl, hN2⟩, ⟨hI.1.trans (hb.mono z9), hI.2.1.under hb l2, hI.2.2.1.under hb l3, ⟨_, _, hz.under hb l44⟩, Nat.le_trans hI.2.2.2.2 hb.size⟩, fun k9 y9 hd h => ?_⟩
   unfold FH8y at *
   split at h <;> first | exact h | (exfalso; revert hd; decide +kernel)
  ·intro bb w' hf hI hA
   have q4 := hf.kept (s := 4) (by rw [zdw]; kernel_rfl) k4
   obtain ⟨v1, v2, hv, hN⟩ := hA 3 (by kernel_rfl) (.inr rfl)
   obtain ⟨a1, c1, a2, c2, e1', e2'⟩ := hN.form
   subst e1' e2'
   have q32 : bb.tmps[32]? = some _ := hf.tmp (k := 3) rfl (by rw [ha]; decide) hv
   obtain ⟨z1, z2, hz⟩ := hI.2.2.2.1
   have e0 : w'.cell? ⟨B4, 0, none⟩ = some z1 := hz.cell 0
   have e1 : w'.cell? ⟨B4, 1, none⟩ = some z2 := hz.cell 1
   have f0 := hz.frozen 0
   have f1 := hz.frozen 1
   have p5 : PB ((w'.setCell ⟨B4, 0, none⟩ (.slice a1 os2.length c1)).setCell ⟨B4, 1, none⟩ (.slice a2 ds2.length c2)) B4 #[.slice a1 os2.length c1, .slice a2 ds2.length c2] 27 := (hz.set 0 _).set 1 _
   have N5 : Cp.zo ((w'.setCell ⟨B4, 0, none⟩ (.slice a1 os2.length c1)).setCell ⟨B4, 1, none⟩ (.slice a2 ds2.length c2)) w9.heap.size (.slice a1 os2.length c1) (.slice a2 ds2.length c2) os2 ds2 := ⟨Cp.jo (Cp.jo hN.1 (jb hN.1 hz (by decide)) _ _) (jb hN.1 hz (by decide)) _ _, Cp.jo (Cp.jo hN.2 (jb hN.2 hz (by decide)) _ _) (jb hN.2 hz (by decide)) _ _⟩
   refine Rg.zaq (o := ⟨none, Op.store 27 (Operand.tmp 4) (Operand.tmp 32), _, _, _, _⟩) (w' := (w'.setCell ⟨B4, 0, none⟩ (.slice a1 os2.length c1)).setCell ⟨B4, 1, none⟩ (.slice a2 ds2.length c2)) rfl rfl ?_ ⟨undef, (by rw [dstH8y]), (fun _ => ⟨_, _, p5, N5⟩), ⟨_, _, p5, N5⟩, ⟨(hI.1.setCell (p := ⟨B4, 0, none⟩) l4 _).setCell (p := ⟨B4, 1, none⟩) l4 _, (hI.2.1.far h24 _ _).far h24 _ _, (hI.2.2.1.far h34 _ _).far h34 _ _, ⟨_, _, p5⟩, by simpa using hI.2.2.2.2⟩, fun k9 y9 hd h => ?_⟩
   ·clear hA HS hcall hI hR hN hv hz p5 N5; simp only [execOp]; go_simp
   ·unfold FH8y at *
    split at h <;> first | exact h | (exfalso; revert hd; decide +kernel)
theorem layH8y {a b : Act} (hf : Rg.Fr (Rg.opsOf Tryz.f28 8) a b) : b = Rg.fl (Rg.opsOf Tryz.f28 8) b 0 [some 29, some 30, some 31, some 32, none] a := Rg.ql _ (by kernel_rfl) hf
end Go.Proofs.YtjlpfpigggdemaaGreatDoor
