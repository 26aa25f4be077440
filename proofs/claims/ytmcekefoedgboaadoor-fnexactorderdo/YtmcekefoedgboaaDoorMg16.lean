/-
  Merged: U45.
-/
import Derived.Test.YtmcekefoedgboaaDoorMg11
import Derived.Test.YtmcekefoedgboaaDoorMg15
namespace Go.Proofs.YtmcekefoedgboaaDoor
open Go.RowKit Va Uo
set_option linter.all false
theorem PB.under {w w' : World} {B b : Nat} {vs : Array Value} {t : TypeId} (h : PB w B vs t) (hb : Below b w w') (hl : B < b) : PB w' B vs t := (hb.block B hl).trans h
def FH5d (ao ad : Option Addr) (n cap m dcap : Nat) (os : List Od) (ds : List Ds) (os2 : List Od) (ds2 : List Ds) (x : Dd) (B4 base : Nat) (i9 : Nat) (v : Value) (w : World) : Prop :=
  match i9 with
  | 0 => v = .agg #[.slice ao n cap, .slice ad m dcap]
  | 1 => ∃ a1 c1 a2 c2, v = .agg #[.slice a1 os.length c1, .slice a2 ds.length c2] ∧ Cp.zq w base (.slice a1 os.length c1) (.slice a2 ds.length c2) os ds
  | 2 => v = .agg #[.int .i64 x.k, .int .i64 x.o.id, .int .i64 x.o.p, .int .i64 x.o.d, .int .i64 x.o.n, .int .i64 x.o.f, .int .i64 x.o.e, .int .i64 x.o.c, .int .i64 x.o.s, .bool x.o.two, .int .i64 x.id, .int .i64 x.p, .int .i64 x.d, .int .i64 x.n, .int .i64 x.m, .int .i64 x.b, .int .i64 x.a]
  | 3 => False
  | 4 => False
  | _ => True
theorem zdp : (Rg.opsOf Tryd.f26 5).size = 5 := by kernel_rfl
set_option maxRecDepth 20000 in
set_option maxHeartbeats 8000000 in
theorem regH5d {Q : Exit → Act → World → Prop} {a : Act} {w0 w9 : World} {B2 B3 B4 : Nat} {ao ad : Option Addr} {n cap m dcap : Nat} {os : List Od} {ds : List Ds} {x : Dd} {c : Int} (ha : a.tmps.size = 33) (k2 : a.tmps[2]? = some (.pointer (some ⟨B2, 0, none⟩))) (k3 : a.tmps[3]? = some (.pointer (some ⟨B3, 0, none⟩))) (k4 : a.tmps[4]? = some (.pointer (some ⟨B4, 0, none⟩)))
    (p2 : PB w9 B2 #[.slice ao n cap, .slice ad m dcap] 27) (p3 : PB w9 B3 #[.int .i64 x.k, .int .i64 x.o.id, .int .i64 x.o.p, .int .i64 x.o.d, .int .i64 x.o.n, .int .i64 x.o.f, .int .i64 x.o.e, .int .i64 x.o.c, .int .i64 x.o.s, .bool x.o.two, .int .i64 x.id, .int .i64 x.p, .int .i64 x.d, .int .i64 x.n, .int .i64 x.m, .int .i64 x.b, .int .i64 x.a] 31) (p4 : PB w9 B4 #[.slice none 0 0, .slice none 0 0] 27) (hb9 : Below w0.heap.size w0 w9) (l4 : w0.heap.size ≤ B4) (hR : Cp.CRw w0 (.slice ao n cap) (.slice ad m dcap) os ds) (hn : os.length ≤ 1048576) (hm : ds.length ≤ 1048576)
    (hcall : ∀ W a1 c1 a2 c2, Cp.zq W w9.heap.size (.slice a1 os.length c1) (.slice a2 ds.length c2) os ds → w9.heap.size ≤ W.heap.size → Calls Tryd.prog 55 #[.agg #[.slice a1 os.length c1, .slice a2 ds.length c2], .agg #[.int .i64 x.k, .int .i64 x.o.id, .int .i64 x.o.p, .int .i64 x.o.d, .int .i64 x.o.n, .int .i64 x.o.f, .int .i64 x.o.e, .int .i64 x.o.c, .int .i64 x.o.s, .bool x.o.two, .int .i64 x.id, .int .i64 x.p, .int .i64 x.d, .int .i64 x.n, .int .i64 x.m, .int .i64 x.b, .int .i64 x.a]] W fun e w' => e = .panicked [{ v := ku x.k c, recovered := false }] ∧ Below W.heap.size W w')
    (hdie : ∀ b' w', Rg.Fr (Rg.opsOf Tryd.f26 5) a b' → Below w0.heap.size w0 w' → Q (.panic [{ v := ku x.k c, recovered := false }]) b' w') :
    (Code.region 5 (Rg.opsOf Tryd.f26 5) true).wp Tryd.prog Q a w9 := by
  have l2 := p2.lt
  have l3 := p3.lt
  have l44 := p4.lt
  have z9 := hb9.size
  refine Rg.zae (by kernel_rfl) (fun w' => Below w0.heap.size w0 w' ∧ PB w' B2 #[.slice ao n cap, .slice ad m dcap] 27 ∧ PB w' B3 #[.int .i64 x.k, .int .i64 x.o.id, .int .i64 x.o.p, .int .i64 x.o.d, .int .i64 x.o.n, .int .i64 x.o.f, .int .i64 x.o.e, .int .i64 x.o.c, .int .i64 x.o.s, .bool x.o.two, .int .i64 x.id, .int .i64 x.p, .int .i64 x.d, .int .i64 x.n, .int .i64 x.m, .int .i64 x.b, .int .i64 x.a] 31 ∧ (∃ z1 z2, PB w' B4 #[z1, z2] 27) ∧ w9.heap.size ≤ w'.heap.size) (FH5d ao ad n cap m dcap os ds os ds x B4 w9.heap.size) (fun k => match k with | 1 => some 3 | 3 => some 4 | _ => none) (by rw [ha, zdp]; kernel_rfl) ⟨jg hb9, p2, p3, ⟨_, _, p4⟩, Nat.le_refl _⟩ ?_ ?_
  case refine_2 =>
    intro b' w' hf hI hA
    rw [zdp] at hA
    exact (hA 4 (by decide) rfl).elim
  case refine_1 =>
    clear p4
    have HS : ∀ {w w' : World}, Below w.heap.size w w' → ∀ k9 y9, k9 ≠ 4 → FH5d ao ad n cap m dcap os ds os ds x B4 w9.heap.size k9 y9 w → FH5d ao ad n cap m dcap os ds os ds x B4 w9.heap.size k9 y9 w' := fun hb k9 y9 h4 h => by
      unfold FH5d at *
      split at h <;> first | exact h | exact absurd rfl h4 | (obtain ⟨a1, c1, a2, c2, h1, h2⟩ := h; exact ⟨a1, c1, a2, c2, h1, h2.below hb⟩) | (obtain ⟨v1, v2, h1, h2⟩ := h; exact ⟨v1, v2, h1, h2.below hb⟩)
    intro i' hi'
    rw [zdp] at hi'
    rcases (show i' = 0 ∨ i' = 1 ∨ i' = 2 ∨ i' = 3 ∨ i' = 4 by omega) with rfl | rfl | rfl | rfl | rfl
    · intro bb w' hf hI hA
      have q2 := hf.kept (s := 2) (by rw [zdp]; kernel_rfl) k2
      obtain ⟨e0, e1⟩ := hI.2.1.two
      exact Rg.zh (o := ⟨some 19, Op.load 27 (Operand.tmp 2), _, _, _, _⟩) (x := .agg #[.slice ao n cap, .slice ad m dcap]) rfl rfl (by clear hA HS hcall hI hR; simp only [execOp]; go_simp) ⟨_, rfl, (fun h => by cases h), rfl, hI, fun _ _ _ h => h⟩
    · intro bb w' hf hI hA
      have q19 : bb.tmps[19]? = some _ := hf.tmp (k := 0) rfl (by rw [ha]; decide) (hA 0 (by kernel_rfl) (.inl rfl))
      obtain ⟨z1, z2, hz⟩ := hI.2.2.2.1
      refine Rg.jy (o := ⟨some 20, Op.call { callee := Callee.value (Operand.func 51), args := #[Operand.tmp 19], argTypes := _ }, _, _, _, _⟩) rfl rfl (by clear hA HS hcall hI hR hz; simp only [execOp, resolve]; go_simp) (Cp.zcy ao ad n cap m dcap os ds w' (hR.below hI.1) hn hm) ?_
      rintro e w2 ⟨a1, c1, a2, c2, rfl, hN, hb⟩
      exact ⟨_, rfl, _, rfl, (fun h => by cases h), ⟨a1, c1, a2, c2, rfl, za0 hN hI.2.2.2.2⟩, ⟨onto hI.1 hb, hI.2.1.below hb, hI.2.2.1.below hb, ⟨_, _, hz.below hb⟩, Nat.le_trans hI.2.2.2.2 hb.size⟩, fun k9 y9 hd h => HS hb k9 y9 (fun e => by subst e; revert hd; decide +kernel) h⟩
    · intro bb w' hf hI hA
      have q3 := hf.kept (s := 3) (by rw [zdp]; kernel_rfl) k3
      have hl := run_loadVar_row (P := Tryd.prog) w' B3 _ 31 #[.int .i64 x.k, .int .i64 x.o.id, .int .i64 x.o.p, .int .i64 x.o.d, .int .i64 x.o.n, .int .i64 x.o.f, .int .i64 x.o.e, .int .i64 x.o.c, .int .i64 x.o.s, .bool x.o.two, .int .i64 x.id, .int .i64 x.p, .int .i64 x.d, .int .i64 x.n, .int .i64 x.m, .int .i64 x.b, .int .i64 x.a] (0, 0) _ hI.2.2.1 Tryd.underlying31 rfl (by kernel_rfl)
      exact Rg.zh (o := ⟨some 21, Op.load 31 (Operand.tmp 3), _, _, _, _⟩) (x := .agg #[.int .i64 x.k, .int .i64 x.o.id, .int .i64 x.o.p, .int .i64 x.o.d, .int .i64 x.o.n, .int .i64 x.o.f, .int .i64 x.o.e, .int .i64 x.o.c, .int .i64 x.o.s, .bool x.o.two, .int .i64 x.id, .int .i64 x.p, .int .i64 x.d, .int .i64 x.n, .int .i64 x.m, .int .i64 x.b, .int .i64 x.a]) rfl rfl (zax 31 (.tmp 3) ⟨B3, 0, none⟩ _ rfl (by simp [Act.eval, q3]) hl) ⟨_, rfl, (fun h => by cases h), rfl, hI, fun _ _ _ h => h⟩
    · intro bb w' hf hI hA
      obtain ⟨a1, c1, a2, c2, hv, hN⟩ := hA 1 (by kernel_rfl) (.inr rfl)
      have q20 : bb.tmps[20]? = some _ := hf.tmp (k := 1) rfl (by rw [ha]; decide) hv
      have q21 : bb.tmps[21]? = some _ := hf.tmp (k := 2) rfl (by rw [ha]; decide) (hA 2 (by kernel_rfl) (.inl rfl))
      have hC := hcall w' a1 c1 a2 c2 hN hI.2.2.2.2
      refine Rg.zcv (o := ⟨some 22, Op.call { callee := Callee.value (Operand.func 55), args := #[Operand.tmp 20, Operand.tmp 21], argTypes := _ }, _, _, _, _⟩) rfl rfl (by clear hA HS hcall hI hR hC hN hv hdie; simp only [execOp, resolve]; go_simp) hC ?_
      rintro e w2 ⟨rfl, hb⟩
      exact ⟨_, rfl, hdie _ _ hf (onto hI.1 hb)⟩
    · intro bb w' hf hI hA
      exact (hA 3 (by kernel_rfl) (.inr rfl)).elim
def FH5y (ao ad : Option Addr) (n cap m dcap : Nat) (os : List Od) (ds : List Ds) (os2 : List Od) (ds2 : List Ds) (x : Dd) (B4 base : Nat) (i9 : Nat) (v : Value) (w : World) : Prop :=
  match i9 with
  | 0 => v = .agg #[.slice ao n cap, .slice ad m dcap]
  | 1 => ∃ a1 c1 a2 c2, v = .agg #[.slice a1 os.length c1, .slice a2 ds.length c2] ∧ Cp.zq w base (.slice a1 os.length c1) (.slice a2 ds.length c2) os ds
  | 2 => v = .agg #[.int .i64 x.k, .int .i64 x.o.id, .int .i64 x.o.p, .int .i64 x.o.d, .int .i64 x.o.n, .int .i64 x.o.f, .int .i64 x.o.e, .int .i64 x.o.c, .int .i64 x.o.s, .bool x.o.two, .int .i64 x.id, .int .i64 x.p, .int .i64 x.d, .int .i64 x.n, .int .i64 x.m, .int .i64 x.b, .int .i64 x.a]
  | 3 => ∃ v1 v2, v = .agg #[v1, v2] ∧ Cp.zq w base v1 v2 os2 ds2
  | 4 => ∃ v1 v2, PB w B4 #[v1, v2] 27 ∧ Cp.zq w base v1 v2 os2 ds2
  | _ => True
theorem zck : (Rg.opsOf Tryd.f26 5).size = 5 := by kernel_rfl
theorem dstH5y : Rg.zf (Rg.opsOf Tryd.f26 5) 4 = none := by kernel_rfl
set_option maxRecDepth 20000 in
set_option maxHeartbeats 8000000 in
theorem regH5y {Q : Exit → Act → World → Prop} {a : Act} {w0 w9 : World} {B2 B3 B4 : Nat} {ao ad : Option Addr} {n cap m dcap : Nat} {os : List Od} {ds : List Ds} {os2 : List Od} {ds2 : List Ds} {x : Dd} {c : Int} (ha : a.tmps.size = 33) (k2 : a.tmps[2]? = some (.pointer (some ⟨B2, 0, none⟩))) (k3 : a.tmps[3]? = some (.pointer (some ⟨B3, 0, none⟩))) (k4 : a.tmps[4]? = some (.pointer (some ⟨B4, 0, none⟩)))
    (p2 : PB w9 B2 #[.slice ao n cap, .slice ad m dcap] 27) (p3 : PB w9 B3 #[.int .i64 x.k, .int .i64 x.o.id, .int .i64 x.o.p, .int .i64 x.o.d, .int .i64 x.o.n, .int .i64 x.o.f, .int .i64 x.o.e, .int .i64 x.o.c, .int .i64 x.o.s, .bool x.o.two, .int .i64 x.id, .int .i64 x.p, .int .i64 x.d, .int .i64 x.n, .int .i64 x.m, .int .i64 x.b, .int .i64 x.a] 31) (p4 : PB w9 B4 #[.slice none 0 0, .slice none 0 0] 27) (hb9 : Below w0.heap.size w0 w9) (l4 : w0.heap.size ≤ B4) (hR : Cp.CRw w0 (.slice ao n cap) (.slice ad m dcap) os ds) (hn : os.length ≤ 1048576) (hm : ds.length ≤ 1048576) (h24 : B4 ≠ B2) (h34 : B4 ≠ B3)
    (hcall : ∀ W a1 c1 a2 c2, Cp.zq W w9.heap.size (.slice a1 os.length c1) (.slice a2 ds.length c2) os ds → w9.heap.size ≤ W.heap.size → Calls Tryd.prog 55 #[.agg #[.slice a1 os.length c1, .slice a2 ds.length c2], .agg #[.int .i64 x.k, .int .i64 x.o.id, .int .i64 x.o.p, .int .i64 x.o.d, .int .i64 x.o.n, .int .i64 x.o.f, .int .i64 x.o.e, .int .i64 x.o.c, .int .i64 x.o.s, .bool x.o.two, .int .i64 x.id, .int .i64 x.p, .int .i64 x.d, .int .i64 x.n, .int .i64 x.m, .int .i64 x.b, .int .i64 x.a]] W fun e w' => ∃ v1 v2, e = .returned (.agg #[v1, v2]) ∧ Cp.zq w' w9.heap.size v1 v2 os2 ds2 ∧ Below w9.heap.size W w')
    (hend : ∀ b' w' v1 v2, Rg.Fr (Rg.opsOf Tryd.f26 5) a b' → Below w0.heap.size w0 w' → PB w' B4 #[v1, v2] 27 → Cp.zq w' w9.heap.size v1 v2 os2 ds2 → Q .normal b' w') :
    (Code.region 5 (Rg.opsOf Tryd.f26 5) true).wp Tryd.prog Q a w9 := by
  have l2 := p2.lt
  have l3 := p3.lt
  have l44 := p4.lt
  have z9 := hb9.size
  refine Rg.zae (by kernel_rfl) (fun w' => Below w0.heap.size w0 w' ∧ PB w' B2 #[.slice ao n cap, .slice ad m dcap] 27 ∧ PB w' B3 #[.int .i64 x.k, .int .i64 x.o.id, .int .i64 x.o.p, .int .i64 x.o.d, .int .i64 x.o.n, .int .i64 x.o.f, .int .i64 x.o.e, .int .i64 x.o.c, .int .i64 x.o.s, .bool x.o.two, .int .i64 x.id, .int .i64 x.p, .int .i64 x.d, .int .i64 x.n, .int .i64 x.m, .int .i64 x.b, .int .i64 x.a] 31 ∧ (∃ z1 z2, PB w' B4 #[z1, z2] 27) ∧ w9.heap.size ≤ w'.heap.size) (FH5y ao ad n cap m dcap os ds os2 ds2 x B4 w9.heap.size) (fun k => match k with | 1 => some 3 | 3 => some 4 | _ => none) (by rw [ha, zck]; kernel_rfl) ⟨jg hb9, p2, p3, ⟨_, _, p4⟩, Nat.le_refl _⟩ ?_ ?_
  case refine_2 =>
    intro b' w' hf hI hA
    rw [zck] at hA
    obtain ⟨v1, v2, h1, h2⟩ := hA 4 (by decide) rfl
    exact hend b' w' v1 v2 hf hI.1 h1 h2
  case refine_1 =>
    clear hend p4
    have HS : ∀ {w w' : World}, Below w.heap.size w w' → ∀ k9 y9, k9 ≠ 4 → FH5y ao ad n cap m dcap os ds os2 ds2 x B4 w9.heap.size k9 y9 w → FH5y ao ad n cap m dcap os ds os2 ds2 x B4 w9.heap.size k9 y9 w' := fun hb k9 y9 h4 h => by
      unfold FH5y at *
      split at h <;> first | exact h | exact absurd rfl h4 | (obtain ⟨a1, c1, a2, c2, h1, h2⟩ := h; exact ⟨a1, c1, a2, c2, h1, h2.below hb⟩) | (obtain ⟨v1, v2, h1, h2⟩ := h; exact ⟨v1, v2, h1, h2.below hb⟩)
    intro i' hi'
    rw [zck] at hi'
    rcases (show i' = 0 ∨ i' = 1 ∨ i' = 2 ∨ i' = 3 ∨ i' = 4 by omega) with rfl | rfl | rfl | rfl | rfl
    · intro bb w' hf hI hA
      have q2 := hf.kept (s := 2) (by rw [zck]; kernel_rfl) k2
      obtain ⟨e0, e1⟩ := hI.2.1.two
      exact Rg.zh (o := ⟨some 19, Op.load 27 (Operand.tmp 2), _, _, _, _⟩) (x := .agg #[.slice ao n cap, .slice ad m dcap]) rfl rfl (by clear hA HS hcall hI hR; simp only [execOp]; go_simp) ⟨_, rfl, (fun h => by cases h), rfl, hI, fun _ _ _ h => h⟩
    · intro bb w' hf hI hA
      have q19 : bb.tmps[19]? = some _ := hf.tmp (k := 0) rfl (by rw [ha]; decide) (hA 0 (by kernel_rfl) (.inl rfl))
      obtain ⟨z1, z2, hz⟩ := hI.2.2.2.1
      refine Rg.jy (o := ⟨some 20, Op.call { callee := Callee.value (Operand.func 51), args := #[Operand.tmp 19], argTypes := _ }, _, _, _, _⟩) rfl rfl (by clear hA HS hcall hI hR hz; simp only [execOp, resolve]; go_simp) (Cp.zcy ao ad n cap m dcap os ds w' (hR.below hI.1) hn hm) ?_
      rintro e w2 ⟨a1, c1, a2, c2, rfl, hN, hb⟩
      exact ⟨_, rfl, _, rfl, (fun h => by cases h), ⟨a1, c1, a2, c2, rfl, za0 hN hI.2.2.2.2⟩, ⟨onto hI.1 hb, hI.2.1.below hb, hI.2.2.1.below hb, ⟨_, _, hz.below hb⟩, Nat.le_trans hI.2.2.2.2 hb.size⟩, fun k9 y9 hd h => HS hb k9 y9 (fun e => by subst e; revert hd; decide +kernel) h⟩
    · intro bb w' hf hI hA
      have q3 := hf.kept (s := 3) (by rw [zck]; kernel_rfl) k3
      have hl := run_loadVar_row (P := Tryd.prog) w' B3 _ 31 #[.int .i64 x.k, .int .i64 x.o.id, .int .i64 x.o.p, .int .i64 x.o.d, .int .i64 x.o.n, .int .i64 x.o.f, .int .i64 x.o.e, .int .i64 x.o.c, .int .i64 x.o.s, .bool x.o.two, .int .i64 x.id, .int .i64 x.p, .int .i64 x.d, .int .i64 x.n, .int .i64 x.m, .int .i64 x.b, .int .i64 x.a] (0, 0) _ hI.2.2.1 Tryd.underlying31 rfl (by kernel_rfl)
      exact Rg.zh (o := ⟨some 21, Op.load 31 (Operand.tmp 3), _, _, _, _⟩) (x := .agg #[.int .i64 x.k, .int .i64 x.o.id, .int .i64 x.o.p, .int .i64 x.o.d, .int .i64 x.o.n, .int .i64 x.o.f, .int .i64 x.o.e, .int .i64 x.o.c, .int .i64 x.o.s, .bool x.o.two, .int .i64 x.id, .int .i64 x.p, .int .i64 x.d, .int .i64 x.n, .int .i64 x.m, .int .i64 x.b, .int .i64 x.a]) rfl rfl (zax 31 (.tmp 3) ⟨B3, 0, none⟩ _ rfl (by simp [Act.eval, q3]) hl) ⟨_, rfl, (fun h => by cases h), rfl, hI, fun _ _ _ h => h⟩
    · intro bb w' hf hI hA
      obtain ⟨a1, c1, a2, c2, hv, hN⟩ := hA 1 (by kernel_rfl) (.inr rfl)
      have q20 : bb.tmps[20]? = some _ := hf.tmp (k := 1) rfl (by rw [ha]; decide) hv
      have q21 : bb.tmps[21]? = some _ := hf.tmp (k := 2) rfl (by rw [ha]; decide) (hA 2 (by kernel_rfl) (.inl rfl))
      have hC := hcall w' a1 c1 a2 c2 hN hI.2.2.2.2
      obtain ⟨z1, z2, hz⟩ := hI.2.2.2.1
      refine Rg.jy (o := ⟨some 22, Op.call { callee := Callee.value (Operand.func 55), args := #[Operand.tmp 20, Operand.tmp 21], argTypes := _ }, _, _, _, _⟩) rfl rfl (by clear hA HS hcall hI hR hC hN hv hz; simp only [execOp, resolve]; go_simp) hC ?_
      rintro e w2 ⟨v1, v2, rfl, hN2, hb⟩
      refine ⟨_, rfl, _, rfl, (fun h => by cases h), ⟨v1, v2, rfl, hN2⟩, ⟨hI.1.trans (hb.mono z9), hI.2.1.under hb l2, hI.2.2.1.under hb l3, ⟨_, _, hz.under hb l44⟩, Nat.le_trans hI.2.2.2.2 hb.size⟩, fun k9 y9 hd h => ?_⟩
      unfold FH5y at *
      split at h <;> first | exact h | (exfalso; revert hd; decide +kernel)
    · intro bb w' hf hI hA
      have q4 := hf.kept (s := 4) (by rw [zck]; kernel_rfl) k4
      obtain ⟨v1, v2, hv, hN⟩ := hA 3 (by kernel_rfl) (.inr rfl)
      obtain ⟨a1, c1, a2, c2, e1', e2'⟩ := hN.form
      subst e1' e2'
      have q22 : bb.tmps[22]? = some _ := hf.tmp (k := 3) rfl (by rw [ha]; decide) hv
      obtain ⟨z1, z2, hz⟩ := hI.2.2.2.1
      have e0 : w'.cell? ⟨B4, 0, none⟩ = some z1 := hz.cell 0
      have e1 : w'.cell? ⟨B4, 1, none⟩ = some z2 := hz.cell 1
      have f0 := hz.frozen 0
      have f1 := hz.frozen 1
      have p5 : PB ((w'.setCell ⟨B4, 0, none⟩ (.slice a1 os2.length c1)).setCell ⟨B4, 1, none⟩ (.slice a2 ds2.length c2)) B4 #[.slice a1 os2.length c1, .slice a2 ds2.length c2] 27 := (hz.set 0 _).set 1 _
      have N5 : Cp.zq ((w'.setCell ⟨B4, 0, none⟩ (.slice a1 os2.length c1)).setCell ⟨B4, 1, none⟩ (.slice a2 ds2.length c2)) w9.heap.size (.slice a1 os2.length c1) (.slice a2 ds2.length c2) os2 ds2 := ⟨Cp.jm (Cp.jm hN.1 (jc hN.1 hz (by decide)) _ _) (jc hN.1 hz (by decide)) _ _, Cp.jm (Cp.jm hN.2 (jc hN.2 hz (by decide)) _ _) (jc hN.2 hz (by decide)) _ _⟩
      refine Rg.zbe (o := ⟨none, Op.store 27 (Operand.tmp 4) (Operand.tmp 22), _, _, _, _⟩) (w' := (w'.setCell ⟨B4, 0, none⟩ (.slice a1 os2.length c1)).setCell ⟨B4, 1, none⟩ (.slice a2 ds2.length c2)) rfl rfl ?_ ⟨undef, (by rw [dstH5y]), (fun _ => ⟨_, _, p5, N5⟩), ⟨_, _, p5, N5⟩, ⟨(hI.1.setCell (p := ⟨B4, 0, none⟩) l4 _).setCell (p := ⟨B4, 1, none⟩) l4 _, (hI.2.1.far h24 _ _).far h24 _ _, (hI.2.2.1.far h34 _ _).far h34 _ _, ⟨_, _, p5⟩, by simpa using hI.2.2.2.2⟩, fun k9 y9 hd h => ?_⟩
      · clear hA HS hcall hI hR hN hv hz p5 N5; simp only [execOp]; go_simp
      · unfold FH5y at *
        split at h <;> first | exact h | (exfalso; revert hd; decide +kernel)
theorem dH5y_0 : Rg.zf (Rg.opsOf Tryd.f26 5) 0 = some 19 := by kernel_rfl
theorem dH5y_1 : Rg.zf (Rg.opsOf Tryd.f26 5) 1 = some 20 := by kernel_rfl
theorem dH5y_2 : Rg.zf (Rg.opsOf Tryd.f26 5) 2 = some 21 := by kernel_rfl
theorem dH5y_3 : Rg.zf (Rg.opsOf Tryd.f26 5) 3 = some 22 := by kernel_rfl
theorem layH5y {a b : Act} (hf : Rg.Fr (Rg.opsOf Tryd.f26 5) a b) : b = ((((a.put (some 19) (Rg.out (Rg.opsOf Tryd.f26 5) b 0)).put (some 20) (Rg.out (Rg.opsOf Tryd.f26 5) b 1)).put (some 21) (Rg.out (Rg.opsOf Tryd.f26 5) b 2)).put (some 22) (Rg.out (Rg.opsOf Tryd.f26 5) b 3)) := by
  have h := hf.chain
  rw [zck, show List.range 5 = [0, 1, 2, 3, 4] from by decide] at h
  simp only [List.foldl_cons, List.foldl_nil, dH5y_0, dH5y_1, dH5y_2, dH5y_3, dstH5y] at h
  exact h
def FH7d (ao ad : Option Addr) (n cap m dcap : Nat) (os : List Od) (ds : List Ds) (os2 : List Od) (ds2 : List Ds) (x : Dd) (B4 base : Nat) (i9 : Nat) (v : Value) (w : World) : Prop :=
  match i9 with
  | 0 => v = .agg #[.slice ao n cap, .slice ad m dcap]
  | 1 => ∃ a1 c1 a2 c2, v = .agg #[.slice a1 os.length c1, .slice a2 ds.length c2] ∧ Cp.zq w base (.slice a1 os.length c1) (.slice a2 ds.length c2) os ds
  | 2 => v = .agg #[.int .i64 x.k, .int .i64 x.o.id, .int .i64 x.o.p, .int .i64 x.o.d, .int .i64 x.o.n, .int .i64 x.o.f, .int .i64 x.o.e, .int .i64 x.o.c, .int .i64 x.o.s, .bool x.o.two, .int .i64 x.id, .int .i64 x.p, .int .i64 x.d, .int .i64 x.n, .int .i64 x.m, .int .i64 x.b, .int .i64 x.a]
  | 3 => False
  | 4 => False
  | _ => True
theorem zdv : (Rg.opsOf Tryd.f26 7).size = 5 := by kernel_rfl
set_option maxRecDepth 20000 in
set_option maxHeartbeats 8000000 in
theorem regH7d {Q : Exit → Act → World → Prop} {a : Act} {w0 w9 : World} {B2 B3 B4 : Nat} {ao ad : Option Addr} {n cap m dcap : Nat} {os : List Od} {ds : List Ds} {x : Dd} {c : Int} (ha : a.tmps.size = 33) (k2 : a.tmps[2]? = some (.pointer (some ⟨B2, 0, none⟩))) (k3 : a.tmps[3]? = some (.pointer (some ⟨B3, 0, none⟩))) (k4 : a.tmps[4]? = some (.pointer (some ⟨B4, 0, none⟩)))
    (p2 : PB w9 B2 #[.slice ao n cap, .slice ad m dcap] 27) (p3 : PB w9 B3 #[.int .i64 x.k, .int .i64 x.o.id, .int .i64 x.o.p, .int .i64 x.o.d, .int .i64 x.o.n, .int .i64 x.o.f, .int .i64 x.o.e, .int .i64 x.o.c, .int .i64 x.o.s, .bool x.o.two, .int .i64 x.id, .int .i64 x.p, .int .i64 x.d, .int .i64 x.n, .int .i64 x.m, .int .i64 x.b, .int .i64 x.a] 31) (p4 : PB w9 B4 #[.slice none 0 0, .slice none 0 0] 27) (hb9 : Below w0.heap.size w0 w9) (l4 : w0.heap.size ≤ B4) (hR : Cp.CRw w0 (.slice ao n cap) (.slice ad m dcap) os ds) (hn : os.length ≤ 1048576) (hm : ds.length ≤ 1048576)
    (hcall : ∀ W a1 c1 a2 c2, Cp.zq W w9.heap.size (.slice a1 os.length c1) (.slice a2 ds.length c2) os ds → w9.heap.size ≤ W.heap.size → Calls Tryd.prog 56 #[.agg #[.slice a1 os.length c1, .slice a2 ds.length c2], .agg #[.int .i64 x.k, .int .i64 x.o.id, .int .i64 x.o.p, .int .i64 x.o.d, .int .i64 x.o.n, .int .i64 x.o.f, .int .i64 x.o.e, .int .i64 x.o.c, .int .i64 x.o.s, .bool x.o.two, .int .i64 x.id, .int .i64 x.p, .int .i64 x.d, .int .i64 x.n, .int .i64 x.m, .int .i64 x.b, .int .i64 x.a]] W fun e w' => e = .panicked [{ v := ku x.k c, recovered := false }] ∧ Below W.heap.size W w')
    (hdie : ∀ b' w', Rg.Fr (Rg.opsOf Tryd.f26 7) a b' → Below w0.heap.size w0 w' → Q (.panic [{ v := ku x.k c, recovered := false }]) b' w') :
    (Code.region 7 (Rg.opsOf Tryd.f26 7) true).wp Tryd.prog Q a w9 := by
  have l2 := p2.lt
  have l3 := p3.lt
  have l44 := p4.lt
  have z9 := hb9.size
  refine Rg.zae (by kernel_rfl) (fun w' => Below w0.heap.size w0 w' ∧ PB w' B2 #[.slice ao n cap, .slice ad m dcap] 27 ∧ PB w' B3 #[.int .i64 x.k, .int .i64 x.o.id, .int .i64 x.o.p, .int .i64 x.o.d, .int .i64 x.o.n, .int .i64 x.o.f, .int .i64 x.o.e, .int .i64 x.o.c, .int .i64 x.o.s, .bool x.o.two, .int .i64 x.id, .int .i64 x.p, .int .i64 x.d, .int .i64 x.n, .int .i64 x.m, .int .i64 x.b, .int .i64 x.a] 31 ∧ (∃ z1 z2, PB w' B4 #[z1, z2] 27) ∧ w9.heap.size ≤ w'.heap.size) (FH7d ao ad n cap m dcap os ds os ds x B4 w9.heap.size) (fun k => match k with | 1 => some 3 | 3 => some 4 | _ => none) (by rw [ha, zdv]; kernel_rfl) ⟨jg hb9, p2, p3, ⟨_, _, p4⟩, Nat.le_refl _⟩ ?_ ?_
  case refine_2 =>
    intro b' w' hf hI hA
    rw [zdv] at hA
    exact (hA 4 (by decide) rfl).elim
  case refine_1 =>
    clear p4
    have HS : ∀ {w w' : World}, Below w.heap.size w w' → ∀ k9 y9, k9 ≠ 4 → FH7d ao ad n cap m dcap os ds os ds x B4 w9.heap.size k9 y9 w → FH7d ao ad n cap m dcap os ds os ds x B4 w9.heap.size k9 y9 w' := fun hb k9 y9 h4 h => by
      unfold FH7d at *
      split at h <;> first | exact h | exact absurd rfl h4 | (obtain ⟨a1, c1, a2, c2, h1, h2⟩ := h; exact ⟨a1, c1, a2, c2, h1, h2.below hb⟩) | (obtain ⟨v1, v2, h1, h2⟩ := h; exact ⟨v1, v2, h1, h2.below hb⟩)
    intro i' hi'
    rw [zdv] at hi'
    rcases (show i' = 0 ∨ i' = 1 ∨ i' = 2 ∨ i' = 3 ∨ i' = 4 by omega) with rfl | rfl | rfl | rfl | rfl
    · intro bb w' hf hI hA
      have q2 := hf.kept (s := 2) (by rw [zdv]; kernel_rfl) k2
      obtain ⟨e0, e1⟩ := hI.2.1.two
      exact Rg.zh (o := ⟨some 25, Op.load 27 (Operand.tmp 2), _, _, _, _⟩) (x := .agg #[.slice ao n cap, .slice ad m dcap]) rfl rfl (by clear hA HS hcall hI hR; simp only [execOp]; go_simp) ⟨_, rfl, (fun h => by cases h), rfl, hI, fun _ _ _ h => h⟩
    · intro bb w' hf hI hA
      have q25 : bb.tmps[25]? = some _ := hf.tmp (k := 0) rfl (by rw [ha]; decide) (hA 0 (by kernel_rfl) (.inl rfl))
      obtain ⟨z1, z2, hz⟩ := hI.2.2.2.1
      refine Rg.jy (o := ⟨some 26, Op.call { callee := Callee.value (Operand.func 51), args := #[Operand.tmp 25], argTypes := _ }, _, _, _, _⟩) rfl rfl (by clear hA HS hcall hI hR hz; simp only [execOp, resolve]; go_simp) (Cp.zcy ao ad n cap m dcap os ds w' (hR.below hI.1) hn hm) ?_
      rintro e w2 ⟨a1, c1, a2, c2, rfl, hN, hb⟩
      exact ⟨_, rfl, _, rfl, (fun h => by cases h), ⟨a1, c1, a2, c2, rfl, za0 hN hI.2.2.2.2⟩, ⟨onto hI.1 hb, hI.2.1.below hb, hI.2.2.1.below hb, ⟨_, _, hz.below hb⟩, Nat.le_trans hI.2.2.2.2 hb.size⟩, fun k9 y9 hd h => HS hb k9 y9 (fun e => by subst e; revert hd; decide +kernel) h⟩
    · intro bb w' hf hI hA
      have q3 := hf.kept (s := 3) (by rw [zdv]; kernel_rfl) k3
      have hl := run_loadVar_row (P := Tryd.prog) w' B3 _ 31 #[.int .i64 x.k, .int .i64 x.o.id, .int .i64 x.o.p, .int .i64 x.o.d, .int .i64 x.o.n, .int .i64 x.o.f, .int .i64 x.o.e, .int .i64 x.o.c, .int .i64 x.o.s, .bool x.o.two, .int .i64 x.id, .int .i64 x.p, .int .i64 x.d, .int .i64 x.n, .int .i64 x.m, .int .i64 x.b, .int .i64 x.a] (0, 0) _ hI.2.2.1 Tryd.underlying31 rfl (by kernel_rfl)
      exact Rg.zh (o := ⟨some 27, Op.load 31 (Operand.tmp 3), _, _, _, _⟩) (x := .agg #[.int .i64 x.k, .int .i64 x.o.id, .int .i64 x.o.p, .int .i64 x.o.d, .int .i64 x.o.n, .int .i64 x.o.f, .int .i64 x.o.e, .int .i64 x.o.c, .int .i64 x.o.s, .bool x.o.two, .int .i64 x.id, .int .i64 x.p, .int .i64 x.d, .int .i64 x.n, .int .i64 x.m, .int .i64 x.b, .int .i64 x.a]) rfl rfl (zax 31 (.tmp 3) ⟨B3, 0, none⟩ _ rfl (by simp [Act.eval, q3]) hl) ⟨_, rfl, (fun h => by cases h), rfl, hI, fun _ _ _ h => h⟩
    · intro bb w' hf hI hA
      obtain ⟨a1, c1, a2, c2, hv, hN⟩ := hA 1 (by kernel_rfl) (.inr rfl)
      have q26 : bb.tmps[26]? = some _ := hf.tmp (k := 1) rfl (by rw [ha]; decide) hv
      have q27 : bb.tmps[27]? = some _ := hf.tmp (k := 2) rfl (by rw [ha]; decide) (hA 2 (by kernel_rfl) (.inl rfl))
      have hC := hcall w' a1 c1 a2 c2 hN hI.2.2.2.2
      refine Rg.zcv (o := ⟨some 28, Op.call { callee := Callee.value (Operand.func 56), args := #[Operand.tmp 26, Operand.tmp 27], argTypes := _ }, _, _, _, _⟩) rfl rfl (by clear hA HS hcall hI hR hC hN hv hdie; simp only [execOp, resolve]; go_simp) hC ?_
      rintro e w2 ⟨rfl, hb⟩
      exact ⟨_, rfl, hdie _ _ hf (onto hI.1 hb)⟩
    · intro bb w' hf hI hA
      exact (hA 3 (by kernel_rfl) (.inr rfl)).elim
def FH7y (ao ad : Option Addr) (n cap m dcap : Nat) (os : List Od) (ds : List Ds) (os2 : List Od) (ds2 : List Ds) (x : Dd) (B4 base : Nat) (i9 : Nat) (v : Value) (w : World) : Prop :=
  match i9 with
  | 0 => v = .agg #[.slice ao n cap, .slice ad m dcap]
  | 1 => ∃ a1 c1 a2 c2, v = .agg #[.slice a1 os.length c1, .slice a2 ds.length c2] ∧ Cp.zq w base (.slice a1 os.length c1) (.slice a2 ds.length c2) os ds
  | 2 => v = .agg #[.int .i64 x.k, .int .i64 x.o.id, .int .i64 x.o.p, .int .i64 x.o.d, .int .i64 x.o.n, .int .i64 x.o.f, .int .i64 x.o.e, .int .i64 x.o.c, .int .i64 x.o.s, .bool x.o.two, .int .i64 x.id, .int .i64 x.p, .int .i64 x.d, .int .i64 x.n, .int .i64 x.m, .int .i64 x.b, .int .i64 x.a]
  | 3 => ∃ v1 v2, v = .agg #[v1, v2] ∧ Cp.zq w base v1 v2 os2 ds2
  | 4 => ∃ v1 v2, PB w B4 #[v1, v2] 27 ∧ Cp.zq w base v1 v2 os2 ds2
  | _ => True
theorem zcr : (Rg.opsOf Tryd.f26 7).size = 5 := by kernel_rfl
theorem dstH7y : Rg.zf (Rg.opsOf Tryd.f26 7) 4 = none := by kernel_rfl
set_option maxRecDepth 20000 in
set_option maxHeartbeats 8000000 in
theorem regH7y {Q : Exit → Act → World → Prop} {a : Act} {w0 w9 : World} {B2 B3 B4 : Nat} {ao ad : Option Addr} {n cap m dcap : Nat} {os : List Od} {ds : List Ds} {os2 : List Od} {ds2 : List Ds} {x : Dd} {c : Int} (ha : a.tmps.size = 33) (k2 : a.tmps[2]? = some (.pointer (some ⟨B2, 0, none⟩))) (k3 : a.tmps[3]? = some (.pointer (some ⟨B3, 0, none⟩))) (k4 : a.tmps[4]? = some (.pointer (some ⟨B4, 0, none⟩)))
    (p2 : PB w9 B2 #[.slice ao n cap, .slice ad m dcap] 27) (p3 : PB w9 B3 #[.int .i64 x.k, .int .i64 x.o.id, .int .i64 x.o.p, .int .i64 x.o.d, .int .i64 x.o.n, .int .i64 x.o.f, .int .i64 x.o.e, .int .i64 x.o.c, .int .i64 x.o.s, .bool x.o.two, .int .i64 x.id, .int .i64 x.p, .int .i64 x.d, .int .i64 x.n, .int .i64 x.m, .int .i64 x.b, .int .i64 x.a] 31) (p4 : PB w9 B4 #[.slice none 0 0, .slice none 0 0] 27) (hb9 : Below w0.heap.size w0 w9) (l4 : w0.heap.size ≤ B4) (hR : Cp.CRw w0 (.slice ao n cap) (.slice ad m dcap) os ds) (hn : os.length ≤ 1048576) (hm : ds.length ≤ 1048576) (h24 : B4 ≠ B2) (h34 : B4 ≠ B3)
    (hcall : ∀ W a1 c1 a2 c2, Cp.zq W w9.heap.size (.slice a1 os.length c1) (.slice a2 ds.length c2) os ds → w9.heap.size ≤ W.heap.size → Calls Tryd.prog 56 #[.agg #[.slice a1 os.length c1, .slice a2 ds.length c2], .agg #[.int .i64 x.k, .int .i64 x.o.id, .int .i64 x.o.p, .int .i64 x.o.d, .int .i64 x.o.n, .int .i64 x.o.f, .int .i64 x.o.e, .int .i64 x.o.c, .int .i64 x.o.s, .bool x.o.two, .int .i64 x.id, .int .i64 x.p, .int .i64 x.d, .int .i64 x.n, .int .i64 x.m, .int .i64 x.b, .int .i64 x.a]] W fun e w' => ∃ v1 v2, e = .returned (.agg #[v1, v2]) ∧ Cp.zq w' w9.heap.size v1 v2 os2 ds2 ∧ Below w9.heap.size W w')
    (hend : ∀ b' w' v1 v2, Rg.Fr (Rg.opsOf Tryd.f26 7) a b' → Below w0.heap.size w0 w' → PB w' B4 #[v1, v2] 27 → Cp.zq w' w9.heap.size v1 v2 os2 ds2 → Q .normal b' w') :
    (Code.region 7 (Rg.opsOf Tryd.f26 7) true).wp Tryd.prog Q a w9 := by
  have l2 := p2.lt
  have l3 := p3.lt
  have l44 := p4.lt
  have z9 := hb9.size
  refine Rg.zae (by kernel_rfl) (fun w' => Below w0.heap.size w0 w' ∧ PB w' B2 #[.slice ao n cap, .slice ad m dcap] 27 ∧ PB w' B3 #[.int .i64 x.k, .int .i64 x.o.id, .int .i64 x.o.p, .int .i64 x.o.d, .int .i64 x.o.n, .int .i64 x.o.f, .int .i64 x.o.e, .int .i64 x.o.c, .int .i64 x.o.s, .bool x.o.two, .int .i64 x.id, .int .i64 x.p, .int .i64 x.d, .int .i64 x.n, .int .i64 x.m, .int .i64 x.b, .int .i64 x.a] 31 ∧ (∃ z1 z2, PB w' B4 #[z1, z2] 27) ∧ w9.heap.size ≤ w'.heap.size) (FH7y ao ad n cap m dcap os ds os2 ds2 x B4 w9.heap.size) (fun k => match k with | 1 => some 3 | 3 => some 4 | _ => none) (by rw [ha, zcr]; kernel_rfl) ⟨jg hb9, p2, p3, ⟨_, _, p4⟩, Nat.le_refl _⟩ ?_ ?_
  case refine_2 =>
    intro b' w' hf hI hA
    rw [zcr] at hA
    obtain ⟨v1, v2, h1, h2⟩ := hA 4 (by decide) rfl
    exact hend b' w' v1 v2 hf hI.1 h1 h2
  case refine_1 =>
    clear hend p4
    have HS : ∀ {w w' : World}, Below w.heap.size w w' → ∀ k9 y9, k9 ≠ 4 → FH7y ao ad n cap m dcap os ds os2 ds2 x B4 w9.heap.size k9 y9 w → FH7y ao ad n cap m dcap os ds os2 ds2 x B4 w9.heap.size k9 y9 w' := fun hb k9 y9 h4 h => by
      unfold FH7y at *
      split at h <;> first | exact h | exact absurd rfl h4 | (obtain ⟨a1, c1, a2, c2, h1, h2⟩ := h; exact ⟨a1, c1, a2, c2, h1, h2.below hb⟩) | (obtain ⟨v1, v2, h1, h2⟩ := h; exact ⟨v1, v2, h1, h2.below hb⟩)
    intro i' hi'
    rw [zcr] at hi'
    rcases (show i' = 0 ∨ i' = 1 ∨ i' = 2 ∨ i' = 3 ∨ i' = 4 by omega) with rfl | rfl | rfl | rfl | rfl
    · intro bb w' hf hI hA
      have q2 := hf.kept (s := 2) (by rw [zcr]; kernel_rfl) k2
      obtain ⟨e0, e1⟩ := hI.2.1.two
      exact Rg.zh (o := ⟨some 25, Op.load 27 (Operand.tmp 2), _, _, _, _⟩) (x := .agg #[.slice ao n cap, .slice ad m dcap]) rfl rfl (by clear hA HS hcall hI hR; simp only [execOp]; go_simp) ⟨_, rfl, (fun h => by cases h), rfl, hI, fun _ _ _ h => h⟩
    · intro bb w' hf hI hA
      have q25 : bb.tmps[25]? = some _ := hf.tmp (k := 0) rfl (by rw [ha]; decide) (hA 0 (by kernel_rfl) (.inl rfl))
      obtain ⟨z1, z2, hz⟩ := hI.2.2.2.1
      refine Rg.jy (o := ⟨some 26, Op.call { callee := Callee.value (Operand.func 51), args := #[Operand.tmp 25], argTypes := _ }, _, _, _, _⟩) rfl rfl (by clear hA HS hcall hI hR hz; simp only [execOp, resolve]; go_simp) (Cp.zcy ao ad n cap m dcap os ds w' (hR.below hI.1) hn hm) ?_
      rintro e w2 ⟨a1, c1, a2, c2, rfl, hN, hb⟩
      exact ⟨_, rfl, _, rfl, (fun h => by cases h), ⟨a1, c1, a2, c2, rfl, za0 hN hI.2.2.2.2⟩, ⟨onto hI.1 hb, hI.2.1.below hb, hI.2.2.1.below hb, ⟨_, _, hz.below hb⟩, Nat.le_trans hI.2.2.2.2 hb.size⟩, fun k9 y9 hd h => HS hb k9 y9 (fun e => by subst e; revert hd; decide +kernel) h⟩
    · intro bb w' hf hI hA
      have q3 := hf.kept (s := 3) (by rw [zcr]; kernel_rfl) k3
      have hl := run_loadVar_row (P := Tryd.prog) w' B3 _ 31 #[.int .i64 x.k, .int .i64 x.o.id, .int .i64 x.o.p, .int .i64 x.o.d, .int .i64 x.o.n, .int .i64 x.o.f, .int .i64 x.o.e, .int .i64 x.o.c, .int .i64 x.o.s, .bool x.o.two, .int .i64 x.id, .int .i64 x.p, .int .i64 x.d, .int .i64 x.n, .int .i64 x.m, .int .i64 x.b, .int .i64 x.a] (0, 0) _ hI.2.2.1 Tryd.underlying31 rfl (by kernel_rfl)
      exact Rg.zh (o := ⟨some 27, Op.load 31 (Operand.tmp 3), _, _, _, _⟩) (x := .agg #[.int .i64 x.k, .int .i64 x.o.id, .int .i64 x.o.p, .int .i64 x.o.d, .int .i64 x.o.n, .int .i64 x.o.f, .int .i64 x.o.e, .int .i64 x.o.c, .int .i64 x.o.s, .bool x.o.two, .int .i64 x.id, .int .i64 x.p, .int .i64 x.d, .int .i64 x.n, .int .i64 x.m, .int .i64 x.b, .int .i64 x.a]) rfl rfl (zax 31 (.tmp 3) ⟨B3, 0, none⟩ _ rfl (by simp [Act.eval, q3]) hl) ⟨_, rfl, (fun h => by cases h), rfl, hI, fun _ _ _ h => h⟩
    · intro bb w' hf hI hA
      obtain ⟨a1, c1, a2, c2, hv, hN⟩ := hA 1 (by kernel_rfl) (.inr rfl)
      have q26 : bb.tmps[26]? = some _ := hf.tmp (k := 1) rfl (by rw [ha]; decide) hv
      have q27 : bb.tmps[27]? = some _ := hf.tmp (k := 2) rfl (by rw [ha]; decide) (hA 2 (by kernel_rfl) (.inl rfl))
      have hC := hcall w' a1 c1 a2 c2 hN hI.2.2.2.2
      obtain ⟨z1, z2, hz⟩ := hI.2.2.2.1
      refine Rg.jy (o := ⟨some 28, Op.call { callee := Callee.value (Operand.func 56), args := #[Operand.tmp 26, Operand.tmp 27], argTypes := _ }, _, _, _, _⟩) rfl rfl (by clear hA HS hcall hI hR hC hN hv hz; simp only [execOp, resolve]; go_simp) hC ?_
      rintro e w2 ⟨v1, v2, rfl, hN2, hb⟩
      refine ⟨_, rfl, _, rfl, (fun h => by cases h), ⟨v1, v2, rfl, hN2⟩, ⟨hI.1.trans (hb.mono z9), hI.2.1.under hb l2, hI.2.2.1.under hb l3, ⟨_, _, hz.under hb l44⟩, Nat.le_trans hI.2.2.2.2 hb.size⟩, fun k9 y9 hd h => ?_⟩
      unfold FH7y at *
      split at h <;> first | exact h | (exfalso; revert hd; decide +kernel)
    · intro bb w' hf hI hA
      have q4 := hf.kept (s := 4) (by rw [zcr]; kernel_rfl) k4
      obtain ⟨v1, v2, hv, hN⟩ := hA 3 (by kernel_rfl) (.inr rfl)
      obtain ⟨a1, c1, a2, c2, e1', e2'⟩ := hN.form
      subst e1' e2'
      have q28 : bb.tmps[28]? = some _ := hf.tmp (k := 3) rfl (by rw [ha]; decide) hv
      obtain ⟨z1, z2, hz⟩ := hI.2.2.2.1
      have e0 : w'.cell? ⟨B4, 0, none⟩ = some z1 := hz.cell 0
      have e1 : w'.cell? ⟨B4, 1, none⟩ = some z2 := hz.cell 1
      have f0 := hz.frozen 0
      have f1 := hz.frozen 1
      have p5 : PB ((w'.setCell ⟨B4, 0, none⟩ (.slice a1 os2.length c1)).setCell ⟨B4, 1, none⟩ (.slice a2 ds2.length c2)) B4 #[.slice a1 os2.length c1, .slice a2 ds2.length c2] 27 := (hz.set 0 _).set 1 _
      have N5 : Cp.zq ((w'.setCell ⟨B4, 0, none⟩ (.slice a1 os2.length c1)).setCell ⟨B4, 1, none⟩ (.slice a2 ds2.length c2)) w9.heap.size (.slice a1 os2.length c1) (.slice a2 ds2.length c2) os2 ds2 := ⟨Cp.jm (Cp.jm hN.1 (jc hN.1 hz (by decide)) _ _) (jc hN.1 hz (by decide)) _ _, Cp.jm (Cp.jm hN.2 (jc hN.2 hz (by decide)) _ _) (jc hN.2 hz (by decide)) _ _⟩
      refine Rg.zbe (o := ⟨none, Op.store 27 (Operand.tmp 4) (Operand.tmp 28), _, _, _, _⟩) (w' := (w'.setCell ⟨B4, 0, none⟩ (.slice a1 os2.length c1)).setCell ⟨B4, 1, none⟩ (.slice a2 ds2.length c2)) rfl rfl ?_ ⟨undef, (by rw [dstH7y]), (fun _ => ⟨_, _, p5, N5⟩), ⟨_, _, p5, N5⟩, ⟨(hI.1.setCell (p := ⟨B4, 0, none⟩) l4 _).setCell (p := ⟨B4, 1, none⟩) l4 _, (hI.2.1.far h24 _ _).far h24 _ _, (hI.2.2.1.far h34 _ _).far h34 _ _, ⟨_, _, p5⟩, by simpa using hI.2.2.2.2⟩, fun k9 y9 hd h => ?_⟩
      · clear hA HS hcall hI hR hN hv hz p5 N5; simp only [execOp]; go_simp
      · unfold FH7y at *
        split at h <;> first | exact h | (exfalso; revert hd; decide +kernel)
theorem dH7y_0 : Rg.zf (Rg.opsOf Tryd.f26 7) 0 = some 25 := by kernel_rfl
theorem dH7y_1 : Rg.zf (Rg.opsOf Tryd.f26 7) 1 = some 26 := by kernel_rfl
theorem dH7y_2 : Rg.zf (Rg.opsOf Tryd.f26 7) 2 = some 27 := by kernel_rfl
theorem dH7y_3 : Rg.zf (Rg.opsOf Tryd.f26 7) 3 = some 28 := by kernel_rfl
theorem layH7y {a b : Act} (hf : Rg.Fr (Rg.opsOf Tryd.f26 7) a b) : b = ((((a.put (some 25) (Rg.out (Rg.opsOf Tryd.f26 7) b 0)).put (some 26) (Rg.out (Rg.opsOf Tryd.f26 7) b 1)).put (some 27) (Rg.out (Rg.opsOf Tryd.f26 7) b 2)).put (some 28) (Rg.out (Rg.opsOf Tryd.f26 7) b 3)) := by
  have h := hf.chain
  rw [zcr, show List.range 5 = [0, 1, 2, 3, 4] from by decide] at h
  simp only [List.foldl_cons, List.foldl_nil, dH7y_0, dH7y_1, dH7y_2, dH7y_3, dstH7y] at h
  exact h
def FH8d (ao ad : Option Addr) (n cap m dcap : Nat) (os : List Od) (ds : List Ds) (os2 : List Od) (ds2 : List Ds) (x : Dd) (B4 base : Nat) (i9 : Nat) (v : Value) (w : World) : Prop :=
  match i9 with
  | 0 => v = .agg #[.slice ao n cap, .slice ad m dcap]
  | 1 => ∃ a1 c1 a2 c2, v = .agg #[.slice a1 os.length c1, .slice a2 ds.length c2] ∧ Cp.zq w base (.slice a1 os.length c1) (.slice a2 ds.length c2) os ds
  | 2 => v = .agg #[.int .i64 x.k, .int .i64 x.o.id, .int .i64 x.o.p, .int .i64 x.o.d, .int .i64 x.o.n, .int .i64 x.o.f, .int .i64 x.o.e, .int .i64 x.o.c, .int .i64 x.o.s, .bool x.o.two, .int .i64 x.id, .int .i64 x.p, .int .i64 x.d, .int .i64 x.n, .int .i64 x.m, .int .i64 x.b, .int .i64 x.a]
  | 3 => False
  | 4 => False
  | _ => True
theorem zdw : (Rg.opsOf Tryd.f26 8).size = 5 := by kernel_rfl
set_option maxRecDepth 20000 in
set_option maxHeartbeats 8000000 in
theorem regH8d {Q : Exit → Act → World → Prop} {a : Act} {w0 w9 : World} {B2 B3 B4 : Nat} {ao ad : Option Addr} {n cap m dcap : Nat} {os : List Od} {ds : List Ds} {x : Dd} {c : Int} (ha : a.tmps.size = 33) (k2 : a.tmps[2]? = some (.pointer (some ⟨B2, 0, none⟩))) (k3 : a.tmps[3]? = some (.pointer (some ⟨B3, 0, none⟩))) (k4 : a.tmps[4]? = some (.pointer (some ⟨B4, 0, none⟩)))
    (p2 : PB w9 B2 #[.slice ao n cap, .slice ad m dcap] 27) (p3 : PB w9 B3 #[.int .i64 x.k, .int .i64 x.o.id, .int .i64 x.o.p, .int .i64 x.o.d, .int .i64 x.o.n, .int .i64 x.o.f, .int .i64 x.o.e, .int .i64 x.o.c, .int .i64 x.o.s, .bool x.o.two, .int .i64 x.id, .int .i64 x.p, .int .i64 x.d, .int .i64 x.n, .int .i64 x.m, .int .i64 x.b, .int .i64 x.a] 31) (p4 : PB w9 B4 #[.slice none 0 0, .slice none 0 0] 27) (hb9 : Below w0.heap.size w0 w9) (l4 : w0.heap.size ≤ B4) (hR : Cp.CRw w0 (.slice ao n cap) (.slice ad m dcap) os ds) (hn : os.length ≤ 1048576) (hm : ds.length ≤ 1048576)
    (hcall : ∀ W a1 c1 a2 c2, Cp.zq W w9.heap.size (.slice a1 os.length c1) (.slice a2 ds.length c2) os ds → w9.heap.size ≤ W.heap.size → Calls Tryd.prog 57 #[.agg #[.slice a1 os.length c1, .slice a2 ds.length c2], .agg #[.int .i64 x.k, .int .i64 x.o.id, .int .i64 x.o.p, .int .i64 x.o.d, .int .i64 x.o.n, .int .i64 x.o.f, .int .i64 x.o.e, .int .i64 x.o.c, .int .i64 x.o.s, .bool x.o.two, .int .i64 x.id, .int .i64 x.p, .int .i64 x.d, .int .i64 x.n, .int .i64 x.m, .int .i64 x.b, .int .i64 x.a]] W fun e w' => e = .panicked [{ v := ku x.k c, recovered := false }] ∧ Below W.heap.size W w')
    (hdie : ∀ b' w', Rg.Fr (Rg.opsOf Tryd.f26 8) a b' → Below w0.heap.size w0 w' → Q (.panic [{ v := ku x.k c, recovered := false }]) b' w') :
    (Code.region 8 (Rg.opsOf Tryd.f26 8) true).wp Tryd.prog Q a w9 := by
  have l2 := p2.lt
  have l3 := p3.lt
  have l44 := p4.lt
  have z9 := hb9.size
  refine Rg.zae (by kernel_rfl) (fun w' => Below w0.heap.size w0 w' ∧ PB w' B2 #[.slice ao n cap, .slice ad m dcap] 27 ∧ PB w' B3 #[.int .i64 x.k, .int .i64 x.o.id, .int .i64 x.o.p, .int .i64 x.o.d, .int .i64 x.o.n, .int .i64 x.o.f, .int .i64 x.o.e, .int .i64 x.o.c, .int .i64 x.o.s, .bool x.o.two, .int .i64 x.id, .int .i64 x.p, .int .i64 x.d, .int .i64 x.n, .int .i64 x.m, .int .i64 x.b, .int .i64 x.a] 31 ∧ (∃ z1 z2, PB w' B4 #[z1, z2] 27) ∧ w9.heap.size ≤ w'.heap.size) (FH8d ao ad n cap m dcap os ds os ds x B4 w9.heap.size) (fun k => match k with | 1 => some 3 | 3 => some 4 | _ => none) (by rw [ha, zdw]; kernel_rfl) ⟨jg hb9, p2, p3, ⟨_, _, p4⟩, Nat.le_refl _⟩ ?_ ?_
  case refine_2 =>
    intro b' w' hf hI hA
    rw [zdw] at hA
    exact (hA 4 (by decide) rfl).elim
  case refine_1 =>
    clear p4
    have HS : ∀ {w w' : World}, Below w.heap.size w w' → ∀ k9 y9, k9 ≠ 4 → FH8d ao ad n cap m dcap os ds os ds x B4 w9.heap.size k9 y9 w → FH8d ao ad n cap m dcap os ds os ds x B4 w9.heap.size k9 y9 w' := fun hb k9 y9 h4 h => by
      unfold FH8d at *
      split at h <;> first | exact h | exact absurd rfl h4 | (obtain ⟨a1, c1, a2, c2, h1, h2⟩ := h; exact ⟨a1, c1, a2, c2, h1, h2.below hb⟩) | (obtain ⟨v1, v2, h1, h2⟩ := h; exact ⟨v1, v2, h1, h2.below hb⟩)
    intro i' hi'
    rw [zdw] at hi'
    rcases (show i' = 0 ∨ i' = 1 ∨ i' = 2 ∨ i' = 3 ∨ i' = 4 by omega) with rfl | rfl | rfl | rfl | rfl
    · intro bb w' hf hI hA
      have q2 := hf.kept (s := 2) (by rw [zdw]; kernel_rfl) k2
      obtain ⟨e0, e1⟩ := hI.2.1.two
      exact Rg.zh (o := ⟨some 29, Op.load 27 (Operand.tmp 2), _, _, _, _⟩) (x := .agg #[.slice ao n cap, .slice ad m dcap]) rfl rfl (by clear hA HS hcall hI hR; simp only [execOp]; go_simp) ⟨_, rfl, (fun h => by cases h), rfl, hI, fun _ _ _ h => h⟩
    · intro bb w' hf hI hA
      have q29 : bb.tmps[29]? = some _ := hf.tmp (k := 0) rfl (by rw [ha]; decide) (hA 0 (by kernel_rfl) (.inl rfl))
      obtain ⟨z1, z2, hz⟩ := hI.2.2.2.1
      refine Rg.jy (o := ⟨some 30, Op.call { callee := Callee.value (Operand.func 51), args := #[Operand.tmp 29], argTypes := _ }, _, _, _, _⟩) rfl rfl (by clear hA HS hcall hI hR hz; simp only [execOp, resolve]; go_simp) (Cp.zcy ao ad n cap m dcap os ds w' (hR.below hI.1) hn hm) ?_
      rintro e w2 ⟨a1, c1, a2, c2, rfl, hN, hb⟩
      exact ⟨_, rfl, _, rfl, (fun h => by cases h), ⟨a1, c1, a2, c2, rfl, za0 hN hI.2.2.2.2⟩, ⟨onto hI.1 hb, hI.2.1.below hb, hI.2.2.1.below hb, ⟨_, _, hz.below hb⟩, Nat.le_trans hI.2.2.2.2 hb.size⟩, fun k9 y9 hd h => HS hb k9 y9 (fun e => by subst e; revert hd; decide +kernel) h⟩
    · intro bb w' hf hI hA
      have q3 := hf.kept (s := 3) (by rw [zdw]; kernel_rfl) k3
      have hl := run_loadVar_row (P := Tryd.prog) w' B3 _ 31 #[.int .i64 x.k, .int .i64 x.o.id, .int .i64 x.o.p, .int .i64 x.o.d, .int .i64 x.o.n, .int .i64 x.o.f, .int .i64 x.o.e, .int .i64 x.o.c, .int .i64 x.o.s, .bool x.o.two, .int .i64 x.id, .int .i64 x.p, .int .i64 x.d, .int .i64 x.n, .int .i64 x.m, .int .i64 x.b, .int .i64 x.a] (0, 0) _ hI.2.2.1 Tryd.underlying31 rfl (by kernel_rfl)
      exact Rg.zh (o := ⟨some 31, Op.load 31 (Operand.tmp 3), _, _, _, _⟩) (x := .agg #[.int .i64 x.k, .int .i64 x.o.id, .int .i64 x.o.p, .int .i64 x.o.d, .int .i64 x.o.n, .int .i64 x.o.f, .int .i64 x.o.e, .int .i64 x.o.c, .int .i64 x.o.s, .bool x.o.two, .int .i64 x.id, .int .i64 x.p, .int .i64 x.d, .int .i64 x.n, .int .i64 x.m, .int .i64 x.b, .int .i64 x.a]) rfl rfl (zax 31 (.tmp 3) ⟨B3, 0, none⟩ _ rfl (by simp [Act.eval, q3]) hl) ⟨_, rfl, (fun h => by cases h), rfl, hI, fun _ _ _ h => h⟩
    · intro bb w' hf hI hA
      obtain ⟨a1, c1, a2, c2, hv, hN⟩ := hA 1 (by kernel_rfl) (.inr rfl)
      have q30 : bb.tmps[30]? = some _ := hf.tmp (k := 1) rfl (by rw [ha]; decide) hv
      have q31 : bb.tmps[31]? = some _ := hf.tmp (k := 2) rfl (by rw [ha]; decide) (hA 2 (by kernel_rfl) (.inl rfl))
      have hC := hcall w' a1 c1 a2 c2 hN hI.2.2.2.2
      refine Rg.zcv (o := ⟨some 32, Op.call { callee := Callee.value (Operand.func 57), args := #[Operand.tmp 30, Operand.tmp 31], argTypes := _ }, _, _, _, _⟩) rfl rfl (by clear hA HS hcall hI hR hC hN hv hdie; simp only [execOp, resolve]; go_simp) hC ?_
      rintro e w2 ⟨rfl, hb⟩
      exact ⟨_, rfl, hdie _ _ hf (onto hI.1 hb)⟩
    · intro bb w' hf hI hA
      exact (hA 3 (by kernel_rfl) (.inr rfl)).elim
def FH8y (ao ad : Option Addr) (n cap m dcap : Nat) (os : List Od) (ds : List Ds) (os2 : List Od) (ds2 : List Ds) (x : Dd) (B4 base : Nat) (i9 : Nat) (v : Value) (w : World) : Prop :=
  match i9 with
  | 0 => v = .agg #[.slice ao n cap, .slice ad m dcap]
  | 1 => ∃ a1 c1 a2 c2, v = .agg #[.slice a1 os.length c1, .slice a2 ds.length c2] ∧ Cp.zq w base (.slice a1 os.length c1) (.slice a2 ds.length c2) os ds
  | 2 => v = .agg #[.int .i64 x.k, .int .i64 x.o.id, .int .i64 x.o.p, .int .i64 x.o.d, .int .i64 x.o.n, .int .i64 x.o.f, .int .i64 x.o.e, .int .i64 x.o.c, .int .i64 x.o.s, .bool x.o.two, .int .i64 x.id, .int .i64 x.p, .int .i64 x.d, .int .i64 x.n, .int .i64 x.m, .int .i64 x.b, .int .i64 x.a]
  | 3 => ∃ v1 v2, v = .agg #[v1, v2] ∧ Cp.zq w base v1 v2 os2 ds2
  | 4 => ∃ v1 v2, PB w B4 #[v1, v2] 27 ∧ Cp.zq w base v1 v2 os2 ds2
  | _ => True
theorem zcp : (Rg.opsOf Tryd.f26 8).size = 5 := by kernel_rfl
theorem dstH8y : Rg.zf (Rg.opsOf Tryd.f26 8) 4 = none := by kernel_rfl
set_option maxRecDepth 20000 in
set_option maxHeartbeats 8000000 in
theorem regH8y {Q : Exit → Act → World → Prop} {a : Act} {w0 w9 : World} {B2 B3 B4 : Nat} {ao ad : Option Addr} {n cap m dcap : Nat} {os : List Od} {ds : List Ds} {os2 : List Od} {ds2 : List Ds} {x : Dd} {c : Int} (ha : a.tmps.size = 33) (k2 : a.tmps[2]? = some (.pointer (some ⟨B2, 0, none⟩))) (k3 : a.tmps[3]? = some (.pointer (some ⟨B3, 0, none⟩))) (k4 : a.tmps[4]? = some (.pointer (some ⟨B4, 0, none⟩)))
    (p2 : PB w9 B2 #[.slice ao n cap, .slice ad m dcap] 27) (p3 : PB w9 B3 #[.int .i64 x.k, .int .i64 x.o.id, .int .i64 x.o.p, .int .i64 x.o.d, .int .i64 x.o.n, .int .i64 x.o.f, .int .i64 x.o.e, .int .i64 x.o.c, .int .i64 x.o.s, .bool x.o.two, .int .i64 x.id, .int .i64 x.p, .int .i64 x.d, .int .i64 x.n, .int .i64 x.m, .int .i64 x.b, .int .i64 x.a] 31) (p4 : PB w9 B4 #[.slice none 0 0, .slice none 0 0] 27) (hb9 : Below w0.heap.size w0 w9) (l4 : w0.heap.size ≤ B4) (hR : Cp.CRw w0 (.slice ao n cap) (.slice ad m dcap) os ds) (hn : os.length ≤ 1048576) (hm : ds.length ≤ 1048576) (h24 : B4 ≠ B2) (h34 : B4 ≠ B3)
    (hcall : ∀ W a1 c1 a2 c2, Cp.zq W w9.heap.size (.slice a1 os.length c1) (.slice a2 ds.length c2) os ds → w9.heap.size ≤ W.heap.size → Calls Tryd.prog 57 #[.agg #[.slice a1 os.length c1, .slice a2 ds.length c2], .agg #[.int .i64 x.k, .int .i64 x.o.id, .int .i64 x.o.p, .int .i64 x.o.d, .int .i64 x.o.n, .int .i64 x.o.f, .int .i64 x.o.e, .int .i64 x.o.c, .int .i64 x.o.s, .bool x.o.two, .int .i64 x.id, .int .i64 x.p, .int .i64 x.d, .int .i64 x.n, .int .i64 x.m, .int .i64 x.b, .int .i64 x.a]] W fun e w' => ∃ v1 v2, e = .returned (.agg #[v1, v2]) ∧ Cp.zq w' w9.heap.size v1 v2 os2 ds2 ∧ Below w9.heap.size W w')
    (hend : ∀ b' w' v1 v2, Rg.Fr (Rg.opsOf Tryd.f26 8) a b' → Below w0.heap.size w0 w' → PB w' B4 #[v1, v2] 27 → Cp.zq w' w9.heap.size v1 v2 os2 ds2 → Q .normal b' w') :
    (Code.region 8 (Rg.opsOf Tryd.f26 8) true).wp Tryd.prog Q a w9 := by
  have l2 := p2.lt
  have l3 := p3.lt
  have l44 := p4.lt
  have z9 := hb9.size
  refine Rg.zae (by kernel_rfl) (fun w' => Below w0.heap.size w0 w' ∧ PB w' B2 #[.slice ao n cap, .slice ad m dcap] 27 ∧ PB w' B3 #[.int .i64 x.k, .int .i64 x.o.id, .int .i64 x.o.p, .int .i64 x.o.d, .int .i64 x.o.n, .int .i64 x.o.f, .int .i64 x.o.e, .int .i64 x.o.c, .int .i64 x.o.s, .bool x.o.two, .int .i64 x.id, .int .i64 x.p, .int .i64 x.d, .int .i64 x.n, .int .i64 x.m, .int .i64 x.b, .int .i64 x.a] 31 ∧ (∃ z1 z2, PB w' B4 #[z1, z2] 27) ∧ w9.heap.size ≤ w'.heap.size) (FH8y ao ad n cap m dcap os ds os2 ds2 x B4 w9.heap.size) (fun k => match k with | 1 => some 3 | 3 => some 4 | _ => none) (by rw [ha, zcp]; kernel_rfl) ⟨jg hb9, p2, p3, ⟨_, _, p4⟩, Nat.le_refl _⟩ ?_ ?_
  case refine_2 =>
    intro b' w' hf hI hA
    rw [zcp] at hA
    obtain ⟨v1, v2, h1, h2⟩ := hA 4 (by decide) rfl
    exact hend b' w' v1 v2 hf hI.1 h1 h2
  case refine_1 =>
    clear hend p4
    have HS : ∀ {w w' : World}, Below w.heap.size w w' → ∀ k9 y9, k9 ≠ 4 → FH8y ao ad n cap m dcap os ds os2 ds2 x B4 w9.heap.size k9 y9 w → FH8y ao ad n cap m dcap os ds os2 ds2 x B4 w9.heap.size k9 y9 w' := fun hb k9 y9 h4 h => by
      unfold FH8y at *
      split at h <;> first | exact h | exact absurd rfl h4 | (obtain ⟨a1, c1, a2, c2, h1, h2⟩ := h; exact ⟨a1, c1, a2, c2, h1, h2.below hb⟩) | (obtain ⟨v1, v2, h1, h2⟩ := h; exact ⟨v1, v2, h1, h2.below hb⟩)
    intro i' hi'
    rw [zcp] at hi'
    rcases (show i' = 0 ∨ i' = 1 ∨ i' = 2 ∨ i' = 3 ∨ i' = 4 by omega) with rfl | rfl | rfl | rfl | rfl
    · intro bb w' hf hI hA
      have q2 := hf.kept (s := 2) (by rw [zcp]; kernel_rfl) k2
      obtain ⟨e0, e1⟩ := hI.2.1.two
      exact Rg.zh (o := ⟨some 29, Op.load 27 (Operand.tmp 2), _, _, _, _⟩) (x := .agg #[.slice ao n cap, .slice ad m dcap]) rfl rfl (by clear hA HS hcall hI hR; simp only [execOp]; go_simp) ⟨_, rfl, (fun h => by cases h), rfl, hI, fun _ _ _ h => h⟩
    · intro bb w' hf hI hA
      have q29 : bb.tmps[29]? = some _ := hf.tmp (k := 0) rfl (by rw [ha]; decide) (hA 0 (by kernel_rfl) (.inl rfl))
      obtain ⟨z1, z2, hz⟩ := hI.2.2.2.1
      refine Rg.jy (o := ⟨some 30, Op.call { callee := Callee.value (Operand.func 51), args := #[Operand.tmp 29], argTypes := _ }, _, _, _, _⟩) rfl rfl (by clear hA HS hcall hI hR hz; simp only [execOp, resolve]; go_simp) (Cp.zcy ao ad n cap m dcap os ds w' (hR.below hI.1) hn hm) ?_
      rintro e w2 ⟨a1, c1, a2, c2, rfl, hN, hb⟩
      exact ⟨_, rfl, _, rfl, (fun h => by cases h), ⟨a1, c1, a2, c2, rfl, za0 hN hI.2.2.2.2⟩, ⟨onto hI.1 hb, hI.2.1.below hb, hI.2.2.1.below hb, ⟨_, _, hz.below hb⟩, Nat.le_trans hI.2.2.2.2 hb.size⟩, fun k9 y9 hd h => HS hb k9 y9 (fun e => by subst e; revert hd; decide +kernel) h⟩
    · intro bb w' hf hI hA
      have q3 := hf.kept (s := 3) (by rw [zcp]; kernel_rfl) k3
      have hl := run_loadVar_row (P := Tryd.prog) w' B3 _ 31 #[.int .i64 x.k, .int .i64 x.o.id, .int .i64 x.o.p, .int .i64 x.o.d, .int .i64 x.o.n, .int .i64 x.o.f, .int .i64 x.o.e, .int .i64 x.o.c, .int .i64 x.o.s, .bool x.o.two, .int .i64 x.id, .int .i64 x.p, .int .i64 x.d, .int .i64 x.n, .int .i64 x.m, .int .i64 x.b, .int .i64 x.a] (0, 0) _ hI.2.2.1 Tryd.underlying31 rfl (by kernel_rfl)
      exact Rg.zh (o := ⟨some 31, Op.load 31 (Operand.tmp 3), _, _, _, _⟩) (x := .agg #[.int .i64 x.k, .int .i64 x.o.id, .int .i64 x.o.p, .int .i64 x.o.d, .int .i64 x.o.n, .int .i64 x.o.f, .int .i64 x.o.e, .int .i64 x.o.c, .int .i64 x.o.s, .bool x.o.two, .int .i64 x.id, .int .i64 x.p, .int .i64 x.d, .int .i64 x.n, .int .i64 x.m, .int .i64 x.b, .int .i64 x.a]) rfl rfl (zax 31 (.tmp 3) ⟨B3, 0, none⟩ _ rfl (by simp [Act.eval, q3]) hl) ⟨_, rfl, (fun h => by cases h), rfl, hI, fun _ _ _ h => h⟩
    · intro bb w' hf hI hA
      obtain ⟨a1, c1, a2, c2, hv, hN⟩ := hA 1 (by kernel_rfl) (.inr rfl)
      have q30 : bb.tmps[30]? = some _ := hf.tmp (k := 1) rfl (by rw [ha]; decide) hv
      have q31 : bb.tmps[31]? = some _ := hf.tmp (k := 2) rfl (by rw [ha]; decide) (hA 2 (by kernel_rfl) (.inl rfl))
      have hC := hcall w' a1 c1 a2 c2 hN hI.2.2.2.2
      obtain ⟨z1, z2, hz⟩ := hI.2.2.2.1
      refine Rg.jy (o := ⟨some 32, Op.call { callee := Callee.value (Operand.func 57), args := #[Operand.tmp 30, Operand.tmp 31], argTypes := _ }, _, _, _, _⟩) rfl rfl (by clear hA HS hcall hI hR hC hN hv hz; simp only [execOp, resolve]; go_simp) hC ?_
      rintro e w2 ⟨v1, v2, rfl, hN2, hb⟩
      refine ⟨_, rfl, _, rfl, (fun h => by cases h), ⟨v1, v2, rfl, hN2⟩, ⟨hI.1.trans (hb.mono z9), hI.2.1.under hb l2, hI.2.2.1.under hb l3, ⟨_, _, hz.under hb l44⟩, Nat.le_trans hI.2.2.2.2 hb.size⟩, fun k9 y9 hd h => ?_⟩
      unfold FH8y at *
      split at h <;> first | exact h | (exfalso; revert hd; decide +kernel)
    · intro bb w' hf hI hA
      have q4 := hf.kept (s := 4) (by rw [zcp]; kernel_rfl) k4
      obtain ⟨v1, v2, hv, hN⟩ := hA 3 (by kernel_rfl) (.inr rfl)
      obtain ⟨a1, c1, a2, c2, e1', e2'⟩ := hN.form
      subst e1' e2'
      have q32 : bb.tmps[32]? = some _ := hf.tmp (k := 3) rfl (by rw [ha]; decide) hv
      obtain ⟨z1, z2, hz⟩ := hI.2.2.2.1
      have e0 : w'.cell? ⟨B4, 0, none⟩ = some z1 := hz.cell 0
      have e1 : w'.cell? ⟨B4, 1, none⟩ = some z2 := hz.cell 1
      have f0 := hz.frozen 0
      have f1 := hz.frozen 1
      have p5 : PB ((w'.setCell ⟨B4, 0, none⟩ (.slice a1 os2.length c1)).setCell ⟨B4, 1, none⟩ (.slice a2 ds2.length c2)) B4 #[.slice a1 os2.length c1, .slice a2 ds2.length c2] 27 := (hz.set 0 _).set 1 _
      have N5 : Cp.zq ((w'.setCell ⟨B4, 0, none⟩ (.slice a1 os2.length c1)).setCell ⟨B4, 1, none⟩ (.slice a2 ds2.length c2)) w9.heap.size (.slice a1 os2.length c1) (.slice a2 ds2.length c2) os2 ds2 := ⟨Cp.jm (Cp.jm hN.1 (jc hN.1 hz (by decide)) _ _) (jc hN.1 hz (by decide)) _ _, Cp.jm (Cp.jm hN.2 (jc hN.2 hz (by decide)) _ _) (jc hN.2 hz (by decide)) _ _⟩
      refine Rg.zbe (o := ⟨none, Op.store 27 (Operand.tmp 4) (Operand.tmp 32), _, _, _, _⟩) (w' := (w'.setCell ⟨B4, 0, none⟩ (.slice a1 os2.length c1)).setCell ⟨B4, 1, none⟩ (.slice a2 ds2.length c2)) rfl rfl ?_ ⟨undef, (by rw [dstH8y]), (fun _ => ⟨_, _, p5, N5⟩), ⟨_, _, p5, N5⟩, ⟨(hI.1.setCell (p := ⟨B4, 0, none⟩) l4 _).setCell (p := ⟨B4, 1, none⟩) l4 _, (hI.2.1.far h24 _ _).far h24 _ _, (hI.2.2.1.far h34 _ _).far h34 _ _, ⟨_, _, p5⟩, by simpa using hI.2.2.2.2⟩, fun k9 y9 hd h => ?_⟩
      · clear hA HS hcall hI hR hN hv hz p5 N5; simp only [execOp]; go_simp
      · unfold FH8y at *
        split at h <;> first | exact h | (exfalso; revert hd; decide +kernel)
theorem dH8y_0 : Rg.zf (Rg.opsOf Tryd.f26 8) 0 = some 29 := by kernel_rfl
theorem dH8y_1 : Rg.zf (Rg.opsOf Tryd.f26 8) 1 = some 30 := by kernel_rfl
theorem dH8y_2 : Rg.zf (Rg.opsOf Tryd.f26 8) 2 = some 31 := by kernel_rfl
theorem dH8y_3 : Rg.zf (Rg.opsOf Tryd.f26 8) 3 = some 32 := by kernel_rfl
theorem layH8y {a b : Act} (hf : Rg.Fr (Rg.opsOf Tryd.f26 8) a b) : b = ((((a.put (some 29) (Rg.out (Rg.opsOf Tryd.f26 8) b 0)).put (some 30) (Rg.out (Rg.opsOf Tryd.f26 8) b 1)).put (some 31) (Rg.out (Rg.opsOf Tryd.f26 8) b 2)).put (some 32) (Rg.out (Rg.opsOf Tryd.f26 8) b 3)) := by
  have h := hf.chain
  rw [zcp, show List.range 5 = [0, 1, 2, 3, 4] from by decide] at h
  simp only [List.foldl_cons, List.foldl_nil, dH8y_0, dH8y_1, dH8y_2, dH8y_3, dstH8y] at h
  exact h
end Go.Proofs.YtmcekefoedgboaaDoor
