/-
  Merged: U58.
-/
import Derived.Test.YtmcekefoedgboaaDoorMg38
import Derived.Test.YtmcekefoedgboaaDoorMg36
import Derived.Test.YtmcekefoedgboaaDoorMg39
namespace Go.Proofs.YtmcekefoedgboaaDoor
open Go.RowKit Va Uo
set_option linter.all false
def FOA5 (w0 : World) (ao ad : Option Addr) (cap dcap : Nat) (os : List Od) (ds : List Ds) (x : Dd) (c : Int) (L1 : List Od) (L2 : List Ds) (k : Nat) (o : Nat → Value) (w : World) : Prop :=
  match k with
  | 0 => o 0 = .agg #[.slice ao os.length cap, .slice ad ds.length dcap]
  | 1 => ∃ a1 c1 a2 c2, o 1 = .agg #[.slice a1 os.length c1, .slice a2 ds.length c2] ∧ Cp.CRw w (.slice a1 os.length c1) (.slice a2 ds.length c2) os ds
  | 2 => o 2 = aDd x
  | 3 => o 3 = aDd x
  | 4 => ∃ v1 v2, o 4 = .tuple #[.agg #[v1, v2], .int .i64 c] ∧ Cp.zq w (w0.heap.size) v1 v2 L1 L2
  | 5 => ∃ v1 v2, o 5 = .tuple #[.agg #[v1, v2], .int .i64 c] ∧ Cp.zq w (w0.heap.size) v1 v2 L1 L2
  | 6 => ∃ v1 v2, o 6 = .agg #[v1, v2] ∧ Cp.zq w (w0.heap.size) v1 v2 L1 L2
  | 7 => o 7 = .int .i64 c
  | 8 => ∃ B, o 8 = .pointer (some ⟨B, 0, none⟩) ∧ w0.heap.size ≤ B ∧ PB w B #[.slice none 0 0, .slice none 0 0] 27
  | 9 => ∃ B v1 v2, o 8 = .pointer (some ⟨B, 0, none⟩) ∧ w0.heap.size ≤ B ∧ PB w B #[v1, v2] 27 ∧ Cp.zq w (w0.heap.size) v1 v2 L1 L2
  | 10 => o 10 = .int .i64 c
  | _ => True
theorem zda : (Rg.opsOf Tryd.f5 5).size = 11 := by kernel_rfl
theorem zbx {w0 : World} {ao ad : Option Addr} {cap dcap : Nat} {os : List Od} {ds : List Ds} {x : Dd} {c : Int} {L1 : List Od} {L2 : List Ds} {i k : Nat} {o o' : Nat → Value} {w w' : World} (hd : Rg.due .any (Rg.opsOf Tryd.f5 5) (fun k => if k = 8 then some 9 else if k = 1 then some 4 else none) i k = true) (hb : Below w.heap.size w w') (ho : ∀ k, k ≠ i → o' k = o k) (h : FOA5 w0 ao ad cap dcap os ds x c L1 L2 k o w) : FOA5 w0 ao ad cap dcap os ds x c L1 L2 k o' w' := by
  have hki := Rg.zdl hd
  have h98 : k = 9 → i ≠ 8 := fun e1 e2 => by subst e1 e2; exact Rg.zfu hd (by kernel_rfl)
  unfold FOA5 at *
  split at h
  · rw [ho _ hki]; exact h
  · obtain ⟨a1, c1, a2, c2, h1, h2⟩ := h; exact ⟨a1, c1, a2, c2, by rw [ho _ hki]; exact h1, h2.below hb⟩
  · rw [ho _ hki]; exact h
  · rw [ho _ hki]; exact h
  · obtain ⟨v1, v2, h1, h2⟩ := h; exact ⟨v1, v2, by rw [ho _ hki]; exact h1, h2.below hb⟩
  · obtain ⟨v1, v2, h1, h2⟩ := h; exact ⟨v1, v2, by rw [ho _ hki]; exact h1, h2.below hb⟩
  · obtain ⟨v1, v2, h1, h2⟩ := h; exact ⟨v1, v2, by rw [ho _ hki]; exact h1, h2.below hb⟩
  · rw [ho _ hki]; exact h
  · obtain ⟨B, h1, h2, h3⟩ := h; exact ⟨B, by rw [ho _ hki]; exact h1, h2, h3.below hb⟩
  · obtain ⟨B, v1, v2, h1, h2, h3, h4⟩ := h; exact ⟨B, v1, v2, by rw [ho _ (Ne.symm (h98 rfl))]; exact h1, h2, h3.below hb, h4.below hb⟩
  · rw [ho _ hki]; exact h
  · trivial
theorem zgg {w0 : World} {ao ad : Option Addr} {cap dcap : Nat} {os : List Od} {ds : List Ds} {x : Dd} {c : Int} {L1 : List Od} {L2 : List Ds} {k B j : Nat} {vs : Array Value} {u : Value} {w : World} {o o' : Nat → Value} (hk8 : k ≠ 8) (hk9 : k ≠ 9) (hk1 : k ≠ 1) (hp : PB w B vs 27) (h : FOA5 w0 ao ad cap dcap os ds x c L1 L2 k o w) : FOA5 w0 ao ad cap dcap os ds x c L1 L2 k o (w.setCell ⟨B, j, none⟩ u) := by
  unfold FOA5 at *
  split at h
  · exact h
  · exact (hk1 rfl).elim
  · exact h
  · exact h
  · obtain ⟨v1, v2, h1, h2⟩ := h; exact ⟨v1, v2, h1, yl h2 hp (by decide) (by decide) j u⟩
  · obtain ⟨v1, v2, h1, h2⟩ := h; exact ⟨v1, v2, h1, yl h2 hp (by decide) (by decide) j u⟩
  · obtain ⟨v1, v2, h1, h2⟩ := h; exact ⟨v1, v2, h1, yl h2 hp (by decide) (by decide) j u⟩
  · exact h
  · exact (hk8 rfl).elim
  · exact (hk9 rfl).elim
  · exact h
  · trivial
theorem sameOA5 {w0 : World} {ao ad : Option Addr} {cap dcap : Nat} {os : List Od} {ds : List Ds} {x : Dd} {c : Int} {L1 : List Od} {L2 : List Ds} {k : Nat} {o o' : Nat → Value} {w : World} (hk8 : k ≠ 8) (hk9 : k ≠ 9) (ho : o' k = o k) (h : FOA5 w0 ao ad cap dcap os ds x c L1 L2 k o w) : FOA5 w0 ao ad cap dcap os ds x c L1 L2 k o' w := by
  unfold FOA5 at *
  split at h
  · rw [ho]; exact h
  · rw [ho]; exact h
  · rw [ho]; exact h
  · rw [ho]; exact h
  · rw [ho]; exact h
  · rw [ho]; exact h
  · rw [ho]; exact h
  · rw [ho]; exact h
  · exact (hk8 rfl).elim
  · exact (hk9 rfl).elim
  · rw [ho]; exact h
  · trivial
set_option maxRecDepth 20000 in
set_option maxHeartbeats 8000000 in
theorem regOA5 {Q : Exit → Act → World → Prop} {a : Act} {w0 : World} {ao ad : Option Addr} {cap dcap : Nat} {os : List Od} {ds : List Ds} {x : Dd} {c : Int} {L1 : List Od} {L2 : List Ds} {AB DB : Nat} (ha : a.tmps.size = 104)
    (k2 : a.tmps[2]? = some (.pointer (some ⟨AB, 0, none⟩))) (k3 : a.tmps[3]? = some (.pointer (some ⟨DB, 0, none⟩)))
    (hA2 : PB w0 AB #[.slice ao os.length cap, .slice ad ds.length dcap] 43) (hD : PB w0 DB #[.int .i64 x.k, .int .i64 x.o.id, .int .i64 x.o.p, .int .i64 x.o.d, .int .i64 x.o.n, .int .i64 x.o.f, .int .i64 x.o.e, .int .i64 x.o.c, .int .i64 x.o.s, .bool x.o.two, .int .i64 x.id, .int .i64 x.p, .int .i64 x.d, .int .i64 x.n, .int .i64 x.m, .int .i64 x.b, .int .i64 x.a] 46) (r1 : VRw 9 jb w0 (.slice ao os.length cap) os) (r2 : VRw 5 jk w0 (.slice ad ds.length dcap) ds) (hn : os.length ≤ 1048576) (hm : ds.length ≤ 1048576)
    (hOD : ∀ a1 c1 a2 c2 W, Below w0.heap.size w0 W → Cp.CRw W (.slice a1 os.length c1) (.slice a2 ds.length c2) os ds → Calls Tryd.prog 9 #[.agg #[.slice a1 os.length c1, .slice a2 ds.length c2], aDd x] W (za8 L1 L2 c W))
    (hend : ∀ b' w' B v1 v2, Rg.Fr (Rg.opsOf Tryd.f5 5) a b' → Below w0.heap.size w0 w' → Rg.out (Rg.opsOf Tryd.f5 5) b' 8 = .pointer (some ⟨B, 0, none⟩) → w0.heap.size ≤ B → PB w' B #[v1, v2] 27 → Cp.zq w' w0.heap.size v1 v2 L1 L2 → Rg.out (Rg.opsOf Tryd.f5 5) b' 10 = .int .i64 c → Q .normal b' w') :
    (Code.region 5 (Rg.opsOf Tryd.f5 5) true).wp Tryd.prog Q a w0 := by
  refine Rg.zfl (by kernel_rfl) (fun w' => Below w0.heap.size w0 w') (FOA5 w0 ao ad cap dcap os ds x c L1 L2) (fun k => if k = 8 then some 9 else if k = 1 then some 4 else none) (by rw [ha, zda]; kernel_rfl) (jg (Below.refl _ _)) ?_ ?_
  case refine_2 =>
    intro b' w' hf hI hA
    rw [zda] at hA
    obtain ⟨B, v1, v2, h1, h2, h3, h4⟩ := hA 9 (by decide) rfl
    exact hend b' w' B v1 v2 hf hI h1 h2 h3 h4 (hA 10 (by decide) rfl)
  case refine_1 =>
    clear hend
    intro i' hi'
    rw [zda] at hi'
    rcases (show i' = 0 ∨ i' = 1 ∨ i' = 2 ∨ i' = 3 ∨ i' = 4 ∨ i' = 5 ∨ i' = 6 ∨ i' = 7 ∨ i' = 8 ∨ i' = 9 ∨ i' = 10 by omega) with rfl | rfl | rfl | rfl | rfl | rfl | rfl | rfl | rfl | rfl | rfl
    · intro bb w' hf hI hA
      clear hi'
      have qs := hf.kept (s := 2) (by rw [zda]; kernel_rfl) k2
      obtain ⟨e0, e1⟩ := (hA2.below hI).two
      clear hA hOD r1 r2 hA2 hD
      exact Rg.zh (o := ⟨some 22, Op.load 43 (Operand.tmp 2), _, _, _, _⟩) (x := .agg #[.slice ao os.length cap, .slice ad ds.length dcap]) rfl rfl (by simp only [execOp]; go_simp) ⟨_, rfl, hI, fun o' ho hx => ⟨hx (by rw [show Rg.zf (Rg.opsOf Tryd.f5 5) 0 = some 22 by kernel_rfl]; simp), fun k hd h => zbx hd (Below.refl _ _) ho h⟩⟩
    · intro bb w' hf hI hA
      clear hi'
      have q22 : bb.tmps[22]? = some _ := hf.tmp (k := 0) rfl (by rw [ha]; decide) (hA 0 (by kernel_rfl) (.inl rfl))
      refine Rg.jy (o := ⟨some 23, Op.call { callee := Callee.value (Operand.func 14), args := #[Operand.tmp 22], argTypes := _ }, _, _, _, _⟩) rfl rfl (by clear hA hOD r1 r2 hA2 hD; simp only [execOp, resolve]; go_simp) (zd2 _ _ _ _ _ _ os ds w' (r1.below hI) (r2.below hI) hn hm) ?_
      rintro e w2 ⟨a4, c4, a5, c5, M, rfl, o1, o2, -, -, hb2⟩
      exact ⟨_, rfl, _, rfl, onto hI hb2, fun o' ho hx => ⟨⟨a4, c4, a5, c5, hx (by rw [show Rg.zf (Rg.opsOf Tryd.f5 5) 1 = some 23 by kernel_rfl]; simp), o1.row, o2.row⟩, fun k hd h => zbx hd hb2 ho h⟩⟩
    · intro bb w' hf hI hA
      clear hi'
      have q3 := hf.kept (s := 3) (by rw [zda]; kernel_rfl) k3
      have hl := run_loadVar_row (P := Tryd.prog) w' DB _ 46 #[.int .i64 x.k, .int .i64 x.o.id, .int .i64 x.o.p, .int .i64 x.o.d, .int .i64 x.o.n, .int .i64 x.o.f, .int .i64 x.o.e, .int .i64 x.o.c, .int .i64 x.o.s, .bool x.o.two, .int .i64 x.id, .int .i64 x.p, .int .i64 x.d, .int .i64 x.n, .int .i64 x.m, .int .i64 x.b, .int .i64 x.a] (0, 0) _ (hD.below hI) Tryd.underlying46 rfl (by kernel_rfl)
      exact Rg.zh (o := ⟨some 24, Op.load 46 (Operand.tmp 3), _, _, _, _⟩) (x := aDd x) rfl rfl (zax 46 (.tmp 3) ⟨DB, 0, none⟩ _ rfl (by simp [Act.eval, q3]) hl) ⟨_, rfl, hI, fun o' ho hx => ⟨hx (by rw [show Rg.zf (Rg.opsOf Tryd.f5 5) 2 = some 24 by kernel_rfl]; simp), fun k hd h => zbx hd (Below.refl _ _) ho h⟩⟩
    · intro bb w' hf hI hA
      clear hi'
      have q24 : bb.tmps[24]? = some _ := hf.tmp (k := 2) rfl (by rw [ha]; decide) (hA 2 (by kernel_rfl) (.inl rfl))
      refine Rg.jy (o := ⟨some 25, Op.call { callee := Callee.value (Operand.func 15), args := #[Operand.tmp 24], argTypes := _ }, _, _, _, _⟩) rfl rfl (by clear hA hOD r1 r2 hA2 hD; simp only [execOp, resolve]; go_simp) (zfg x w') ?_
      rintro e w2 ⟨rfl, hb2⟩
      exact ⟨_, rfl, _, rfl, onto hI hb2, fun o' ho hx => ⟨hx (by rw [show Rg.zf (Rg.opsOf Tryd.f5 5) 3 = some 25 by kernel_rfl]; simp), fun k hd h => zbx hd hb2 ho h⟩⟩
    · intro bb w' hf hI hA
      clear hi'
      obtain ⟨a1, c1, a2, c2, hv, hR⟩ := hA 1 (by kernel_rfl) (.inr rfl)
      have q23 : bb.tmps[23]? = some _ := hf.tmp (k := 1) rfl (by rw [ha]; decide) hv
      have q25 : bb.tmps[25]? = some _ := hf.tmp (k := 3) rfl (by rw [ha]; decide) (hA 3 (by kernel_rfl) (.inl rfl))
      refine Rg.jy (o := ⟨some 26, Op.call { callee := Callee.value (Operand.func 9), args := #[Operand.tmp 23, Operand.tmp 25], argTypes := _ }, _, _, _, _⟩) rfl rfl (by clear hA hOD r1 r2 hA2 hD hR hv; simp only [execOp, resolve]; go_simp) (hOD _ _ _ _ w' hI hR) ?_
      rintro e w2 ⟨v1, v2, rfl, hN2, hb2⟩
      exact ⟨_, rfl, _, rfl, onto hI hb2, fun o' ho hx => ⟨⟨v1, v2, hx (by rw [show Rg.zf (Rg.opsOf Tryd.f5 5) 4 = some 26 by kernel_rfl]; simp), za0 hN2 hI.size⟩, fun k hd h => zbx hd hb2 ho h⟩⟩
    · intro bb w' hf hI hA
      clear hi'
      obtain ⟨v1, v2, hv, hn2⟩ := hA 4 (by kernel_rfl) (.inl rfl)
      have q26 : bb.tmps[26]? = some _ := hf.tmp (k := 4) rfl (by rw [ha]; decide) hv
      exact Rg.zh (o := ⟨some 21, Op.move (Operand.tmp 26), _, _, _, _⟩) (x := .tuple #[.agg #[v1, v2], .int .i64 c]) rfl rfl (by clear hA hOD r1 r2 hA2 hD hv hn2; simp only [execOp]; go_simp) ⟨_, rfl, hI, fun o' ho hx => ⟨⟨v1, v2, hx (by rw [show Rg.zf (Rg.opsOf Tryd.f5 5) 5 = some 21 by kernel_rfl]; simp), hn2⟩, fun k hd h => zbx hd (Below.refl _ _) ho h⟩⟩
    · intro bb w' hf hI hA
      clear hi'
      obtain ⟨v1, v2, hv, hn2⟩ := hA 5 (by kernel_rfl) (.inl rfl)
      have q21 : bb.tmps[21]? = some _ := hf.tmp (k := 5) rfl (by rw [ha]; decide) hv
      exact Rg.zh (o := ⟨some 27, Op.extract (Operand.tmp 21) 0, _, _, _, _⟩) (x := .agg #[v1, v2]) rfl rfl (by clear hA hOD r1 r2 hA2 hD hv hn2; simp only [execOp]; go_simp) ⟨_, rfl, hI, fun o' ho hx => ⟨⟨v1, v2, hx (by rw [show Rg.zf (Rg.opsOf Tryd.f5 5) 6 = some 27 by kernel_rfl]; simp), hn2⟩, fun k hd h => zbx hd (Below.refl _ _) ho h⟩⟩
    · intro bb w' hf hI hA
      clear hi'
      obtain ⟨v1, v2, hv, hn2⟩ := hA 5 (by kernel_rfl) (.inl rfl)
      have q21 : bb.tmps[21]? = some _ := hf.tmp (k := 5) rfl (by rw [ha]; decide) hv
      exact Rg.zh (o := ⟨some 28, Op.extract (Operand.tmp 21) 1, _, _, _, _⟩) (x := .int .i64 c) rfl rfl (by clear hA hOD r1 r2 hA2 hD hv hn2; simp only [execOp]; go_simp) ⟨_, rfl, hI, fun o' ho hx => ⟨hx (by rw [show Rg.zf (Rg.opsOf Tryd.f5 5) 7 = some 28 by kernel_rfl]; simp), fun k hd h => zbx hd (Below.refl _ _) ho h⟩⟩
    · intro bb w' hf hI hA
      clear hi'
      clear hA hOD r1 r2 hA2 hD
      have hb2 : Below w'.heap.size w' (w'.alloc (.cells #[.slice none 0 0, .slice none 0 0] 27)) := (Below.refl _ _).alloc (Nat.le_refl _) _
      exact Rg.zh (o := ⟨some 6, Op.alloc 27, _, _, _, _⟩) (x := .pointer (some ⟨w'.heap.size, 0, none⟩)) (w' := w'.alloc (.cells #[.slice none 0 0, .slice none 0 0] 27)) rfl rfl (by simp only [execOp]; go_simp) ⟨_, rfl, onto hI hb2, fun o' ho hx => ⟨⟨_, hx (by rw [show Rg.zf (Rg.opsOf Tryd.f5 5) 8 = some 6 by kernel_rfl]; simp), hI.size, PB.new _ _ _⟩, fun k hd h => zbx hd hb2 ho h⟩⟩
    · intro bb w' hf hI hA
      clear hi'
      obtain ⟨B, hp, hB, hP⟩ := hA 8 (by kernel_rfl) (.inr rfl)
      obtain ⟨v1, v2, hv, hn2⟩ := hA 6 (by kernel_rfl) (.inl rfl)
      obtain ⟨a1, c1, a2, c2, rfl, rfl⟩ := hn2.form
      have qv : bb.tmps[27]? = some _ := hf.tmp (k := 6) rfl (by rw [ha]; decide) hv
      have qp : bb.tmps[6]? = some _ := hf.tmp (k := 8) rfl (by rw [ha]; decide) hp
      obtain ⟨e0, e1⟩ := hP.two
      have f0 := hP.frozen 0
      have f1 := hP.frozen 1
      have hP1 : PB (w'.setCell ⟨B, 0, none⟩ (.slice a1 L1.length c1)) B #[(.slice a1 L1.length c1), .slice none 0 0] 27 := hP.put 0 (.slice a1 L1.length c1) (by simp)
      have hP2 : PB ((w'.setCell ⟨B, 0, none⟩ (.slice a1 L1.length c1)).setCell ⟨B, 1, none⟩ (.slice a2 L2.length c2)) B #[(.slice a1 L1.length c1), (.slice a2 L2.length c2)] 27 := hP1.put 1 (.slice a2 L2.length c2) (by simp)
      have hN2 := yl (yl hn2 hP (by decide) (by decide) 0 (.slice a1 L1.length c1)) hP1 (by decide) (by decide) 1 (.slice a2 L2.length c2)
      have hb2 := (hI.setCell (p := ⟨B, 0, none⟩) hB (.slice a1 L1.length c1)).setCell (p := ⟨B, 1, none⟩) hB (.slice a2 L2.length c2)
      refine Rg.zbe (o := ⟨none, Op.store 27 (Operand.tmp 6) (Operand.tmp 27), _, _, _, _⟩) (w' := (w'.setCell ⟨B, 0, none⟩ (.slice a1 L1.length c1)).setCell ⟨B, 1, none⟩ (.slice a2 L2.length c2)) rfl rfl (by clear hA hOD r1 r2 hA2 hD hP hP1 hP2 hN2 hb2 hn2 hv hp hI; simp only [execOp]; go_simp) ?_
      refine ⟨_, rfl, hb2, fun o' ho _ => ⟨⟨B, _, _, (ho 8 (by decide)).trans hp, hB, hP2, hN2⟩, fun k hd h => ?_⟩⟩
      have g9 := Rg.zdl hd
      have g8 : k ≠ 8 := fun e => by subst e; exact Rg.zft hd (by kernel_rfl)
      have g1 : k ≠ 1 := fun e => by subst e; rw [show Rg.due .any (Rg.opsOf Tryd.f5 5) (fun k => if k = 8 then some 9 else if k = 1 then some 4 else none) 9 1 = false from by kernel_rfl] at hd; cases hd
      exact sameOA5 g8 g9 (ho k g9) (zgg (o' := o') g8 g9 g1 hP1 (zgg (o' := o') g8 g9 g1 hP h))
    · intro bb w' hf hI hA
      clear hi'
      have q28 : bb.tmps[28]? = some _ := hf.tmp (k := 7) rfl (by rw [ha]; decide) (hA 7 (by kernel_rfl) (.inl rfl))
      exact Rg.zh (o := ⟨some 7, Op.assign (Operand.tmp 28), _, _, _, _⟩) (x := .int .i64 c) rfl rfl (by clear hA hOD r1 r2 hA2 hD; simp only [execOp]; go_simp) ⟨_, rfl, hI, fun o' ho hx => ⟨hx (by rw [show Rg.zf (Rg.opsOf Tryd.f5 5) 10 = some 7 by kernel_rfl]; simp), fun k hd h => zbx hd (Below.refl _ _) ho h⟩⟩
theorem dOA5_0 : Rg.zf (Rg.opsOf Tryd.f5 5) 0 = some 22 := by kernel_rfl
theorem dOA5_1 : Rg.zf (Rg.opsOf Tryd.f5 5) 1 = some 23 := by kernel_rfl
theorem dOA5_2 : Rg.zf (Rg.opsOf Tryd.f5 5) 2 = some 24 := by kernel_rfl
theorem dOA5_3 : Rg.zf (Rg.opsOf Tryd.f5 5) 3 = some 25 := by kernel_rfl
theorem dOA5_4 : Rg.zf (Rg.opsOf Tryd.f5 5) 4 = some 26 := by kernel_rfl
theorem dOA5_5 : Rg.zf (Rg.opsOf Tryd.f5 5) 5 = some 21 := by kernel_rfl
theorem dOA5_6 : Rg.zf (Rg.opsOf Tryd.f5 5) 6 = some 27 := by kernel_rfl
theorem dOA5_7 : Rg.zf (Rg.opsOf Tryd.f5 5) 7 = some 28 := by kernel_rfl
theorem dOA5_8 : Rg.zf (Rg.opsOf Tryd.f5 5) 8 = some 6 := by kernel_rfl
theorem dOA5_9 : Rg.zf (Rg.opsOf Tryd.f5 5) 9 = none := by kernel_rfl
theorem dOA5_10 : Rg.zf (Rg.opsOf Tryd.f5 5) 10 = some 7 := by kernel_rfl
theorem layOA5 {a b : Act} (hf : Rg.Fr (Rg.opsOf Tryd.f5 5) a b) : b = ((((((((((a.put (some 22) (Rg.out (Rg.opsOf Tryd.f5 5) b 0)).put (some 23) (Rg.out (Rg.opsOf Tryd.f5 5) b 1)).put (some 24) (Rg.out (Rg.opsOf Tryd.f5 5) b 2)).put (some 25) (Rg.out (Rg.opsOf Tryd.f5 5) b 3)).put (some 26) (Rg.out (Rg.opsOf Tryd.f5 5) b 4)).put (some 21) (Rg.out (Rg.opsOf Tryd.f5 5) b 5)).put (some 27) (Rg.out (Rg.opsOf Tryd.f5 5) b 6)).put (some 28) (Rg.out (Rg.opsOf Tryd.f5 5) b 7)).put (some 6) (Rg.out (Rg.opsOf Tryd.f5 5) b 8)).put (some 7) (Rg.out (Rg.opsOf Tryd.f5 5) b 10)) := by
  have h := hf.chain
  rw [zda, show List.range 11 = [0, 1, 2, 3, 4, 5, 6, 7, 8, 9, 10] from by decide] at h
  simp only [List.foldl_cons, List.foldl_nil, dOA5_0, dOA5_1, dOA5_2, dOA5_3, dOA5_4, dOA5_5, dOA5_6, dOA5_7, dOA5_8, dOA5_9, dOA5_10, pnR2] at h
  exact h
def FOA7 (w0 : World) (ao ad : Option Addr) (cap dcap : Nat) (os : List Od) (ds : List Ds) (x : Dd) (c : Int) (L1 : List Od) (L2 : List Ds) (k : Nat) (o : Nat → Value) (w : World) : Prop :=
  match k with
  | 0 => o 0 = .agg #[.slice ao os.length cap, .slice ad ds.length dcap]
  | 1 => o 1 = aDd x
  | 2 => o 2 = aDd x
  | 3 => ∃ v1 v2, o 3 = .tuple #[.agg #[v1, v2], .int .i64 c] ∧ Cp.zq w (w0.heap.size) v1 v2 L1 L2
  | 4 => ∃ v1 v2, o 4 = .tuple #[.agg #[v1, v2], .int .i64 c] ∧ Cp.zq w (w0.heap.size) v1 v2 L1 L2
  | 5 => ∃ v1 v2, o 5 = .agg #[v1, v2] ∧ Cp.zq w (w0.heap.size) v1 v2 L1 L2
  | 6 => o 6 = .int .i64 c
  | 7 => ∃ B, o 7 = .pointer (some ⟨B, 0, none⟩) ∧ w0.heap.size ≤ B ∧ PB w B #[.slice none 0 0, .slice none 0 0] 27
  | 8 => ∃ B v1 v2, o 7 = .pointer (some ⟨B, 0, none⟩) ∧ w0.heap.size ≤ B ∧ PB w B #[v1, v2] 27 ∧ Cp.zq w (w0.heap.size) v1 v2 L1 L2
  | 9 => o 9 = .int .i64 c
  | _ => True
theorem zc5 : (Rg.opsOf Tryd.f5 7).size = 10 := by kernel_rfl
theorem zb1 {w0 : World} {ao ad : Option Addr} {cap dcap : Nat} {os : List Od} {ds : List Ds} {x : Dd} {c : Int} {L1 : List Od} {L2 : List Ds} {i k : Nat} {o o' : Nat → Value} {w w' : World} (hd : Rg.due .any (Rg.opsOf Tryd.f5 7) (fun k => if k = 7 then some 8 else none) i k = true) (hb : Below w.heap.size w w') (ho : ∀ k, k ≠ i → o' k = o k) (h : FOA7 w0 ao ad cap dcap os ds x c L1 L2 k o w) : FOA7 w0 ao ad cap dcap os ds x c L1 L2 k o' w' := by
  have hki := Rg.zdl hd
  have h98 : k = 8 → i ≠ 7 := fun e1 e2 => by subst e1 e2; exact Rg.zfu hd (by kernel_rfl)
  unfold FOA7 at *
  split at h
  · rw [ho _ hki]; exact h
  · rw [ho _ hki]; exact h
  · rw [ho _ hki]; exact h
  · obtain ⟨v1, v2, h1, h2⟩ := h; exact ⟨v1, v2, by rw [ho _ hki]; exact h1, h2.below hb⟩
  · obtain ⟨v1, v2, h1, h2⟩ := h; exact ⟨v1, v2, by rw [ho _ hki]; exact h1, h2.below hb⟩
  · obtain ⟨v1, v2, h1, h2⟩ := h; exact ⟨v1, v2, by rw [ho _ hki]; exact h1, h2.below hb⟩
  · rw [ho _ hki]; exact h
  · obtain ⟨B, h1, h2, h3⟩ := h; exact ⟨B, by rw [ho _ hki]; exact h1, h2, h3.below hb⟩
  · obtain ⟨B, v1, v2, h1, h2, h3, h4⟩ := h; exact ⟨B, v1, v2, by rw [ho _ (Ne.symm (h98 rfl))]; exact h1, h2, h3.below hb, h4.below hb⟩
  · rw [ho _ hki]; exact h
  · trivial
theorem zfy {w0 : World} {ao ad : Option Addr} {cap dcap : Nat} {os : List Od} {ds : List Ds} {x : Dd} {c : Int} {L1 : List Od} {L2 : List Ds} {k B j : Nat} {vs : Array Value} {u : Value} {w : World} {o o' : Nat → Value} (hk8 : k ≠ 7) (hk9 : k ≠ 8) (hp : PB w B vs 27) (h : FOA7 w0 ao ad cap dcap os ds x c L1 L2 k o w) : FOA7 w0 ao ad cap dcap os ds x c L1 L2 k o (w.setCell ⟨B, j, none⟩ u) := by
  unfold FOA7 at *
  split at h
  · exact h
  · exact h
  · exact h
  · obtain ⟨v1, v2, h1, h2⟩ := h; exact ⟨v1, v2, h1, yl h2 hp (by decide) (by decide) j u⟩
  · obtain ⟨v1, v2, h1, h2⟩ := h; exact ⟨v1, v2, h1, yl h2 hp (by decide) (by decide) j u⟩
  · obtain ⟨v1, v2, h1, h2⟩ := h; exact ⟨v1, v2, h1, yl h2 hp (by decide) (by decide) j u⟩
  · exact h
  · exact (hk8 rfl).elim
  · exact (hk9 rfl).elim
  · exact h
  · trivial
theorem sameOA7 {w0 : World} {ao ad : Option Addr} {cap dcap : Nat} {os : List Od} {ds : List Ds} {x : Dd} {c : Int} {L1 : List Od} {L2 : List Ds} {k : Nat} {o o' : Nat → Value} {w : World} (hk8 : k ≠ 7) (hk9 : k ≠ 8) (ho : o' k = o k) (h : FOA7 w0 ao ad cap dcap os ds x c L1 L2 k o w) : FOA7 w0 ao ad cap dcap os ds x c L1 L2 k o' w := by
  unfold FOA7 at *
  split at h
  · rw [ho]; exact h
  · rw [ho]; exact h
  · rw [ho]; exact h
  · rw [ho]; exact h
  · rw [ho]; exact h
  · rw [ho]; exact h
  · rw [ho]; exact h
  · exact (hk8 rfl).elim
  · exact (hk9 rfl).elim
  · rw [ho]; exact h
  · trivial
set_option maxRecDepth 20000 in
set_option maxHeartbeats 8000000 in
theorem regOA7 {Q : Exit → Act → World → Prop} {a : Act} {w0 : World} {ao ad : Option Addr} {cap dcap : Nat} {os : List Od} {ds : List Ds} {x : Dd} {c : Int} {L1 : List Od} {L2 : List Ds} {AB DB : Nat} (ha : a.tmps.size = 104)
    (k8 : a.tmps[8]? = some (.pointer (some ⟨AB, 0, none⟩))) (k3 : a.tmps[3]? = some (.pointer (some ⟨DB, 0, none⟩)))
    (hA2 : PB w0 AB #[.slice ao os.length cap, .slice ad ds.length dcap] 27) (hD : PB w0 DB #[.int .i64 x.k, .int .i64 x.o.id, .int .i64 x.o.p, .int .i64 x.o.d, .int .i64 x.o.n, .int .i64 x.o.f, .int .i64 x.o.e, .int .i64 x.o.c, .int .i64 x.o.s, .bool x.o.two, .int .i64 x.id, .int .i64 x.p, .int .i64 x.d, .int .i64 x.n, .int .i64 x.m, .int .i64 x.b, .int .i64 x.a] 46) (r1 : VRw 9 jb w0 (.slice ao os.length cap) os) (r2 : VRw 5 jk w0 (.slice ad ds.length dcap) ds) (hn : os.length ≤ 1048576) (hm : ds.length ≤ 1048576)
    (hOD : ∀ a1 c1 a2 c2 W, Below w0.heap.size w0 W → Cp.CRw W (.slice a1 os.length c1) (.slice a2 ds.length c2) os ds → Calls Tryd.prog 8 #[.agg #[.slice a1 os.length c1, .slice a2 ds.length c2], aDd x] W (za8 L1 L2 c W))
    (hend : ∀ b' w' B v1 v2, Rg.Fr (Rg.opsOf Tryd.f5 7) a b' → Below w0.heap.size w0 w' → Rg.out (Rg.opsOf Tryd.f5 7) b' 7 = .pointer (some ⟨B, 0, none⟩) → w0.heap.size ≤ B → PB w' B #[v1, v2] 27 → Cp.zq w' w0.heap.size v1 v2 L1 L2 → Rg.out (Rg.opsOf Tryd.f5 7) b' 9 = .int .i64 c → Q .normal b' w') :
    (Code.region 7 (Rg.opsOf Tryd.f5 7) true).wp Tryd.prog Q a w0 := by
  refine Rg.zfl (by kernel_rfl) (fun w' => Below w0.heap.size w0 w') (FOA7 w0 ao ad cap dcap os ds x c L1 L2) (fun k => if k = 7 then some 8 else none) (by rw [ha, zc5]; kernel_rfl) (jg (Below.refl _ _)) ?_ ?_
  case refine_2 =>
    intro b' w' hf hI hA
    rw [zc5] at hA
    obtain ⟨B, v1, v2, h1, h2, h3, h4⟩ := hA 8 (by decide) rfl
    exact hend b' w' B v1 v2 hf hI h1 h2 h3 h4 (hA 9 (by decide) rfl)
  case refine_1 =>
    clear hend
    intro i' hi'
    rw [zc5] at hi'
    rcases (show i' = 0 ∨ i' = 1 ∨ i' = 2 ∨ i' = 3 ∨ i' = 4 ∨ i' = 5 ∨ i' = 6 ∨ i' = 7 ∨ i' = 8 ∨ i' = 9 by omega) with rfl | rfl | rfl | rfl | rfl | rfl | rfl | rfl | rfl | rfl
    · intro bb w' hf hI hA
      clear hi'
      have qs := hf.kept (s := 8) (by rw [zc5]; kernel_rfl) k8
      obtain ⟨e0, e1⟩ := (hA2.below hI).two
      clear hA hOD r1 r2 hA2 hD
      exact Rg.zh (o := ⟨some 32, Op.load 27 (Operand.tmp 8), _, _, _, _⟩) (x := .agg #[.slice ao os.length cap, .slice ad ds.length dcap]) rfl rfl (by simp only [execOp]; go_simp) ⟨_, rfl, hI, fun o' ho hx => ⟨hx (by rw [show Rg.zf (Rg.opsOf Tryd.f5 7) 0 = some 32 by kernel_rfl]; simp), fun k hd h => zb1 hd (Below.refl _ _) ho h⟩⟩
    · intro bb w' hf hI hA
      clear hi'
      have q3 := hf.kept (s := 3) (by rw [zc5]; kernel_rfl) k3
      have hl := run_loadVar_row (P := Tryd.prog) w' DB _ 46 #[.int .i64 x.k, .int .i64 x.o.id, .int .i64 x.o.p, .int .i64 x.o.d, .int .i64 x.o.n, .int .i64 x.o.f, .int .i64 x.o.e, .int .i64 x.o.c, .int .i64 x.o.s, .bool x.o.two, .int .i64 x.id, .int .i64 x.p, .int .i64 x.d, .int .i64 x.n, .int .i64 x.m, .int .i64 x.b, .int .i64 x.a] (0, 0) _ (hD.below hI) Tryd.underlying46 rfl (by kernel_rfl)
      exact Rg.zh (o := ⟨some 33, Op.load 46 (Operand.tmp 3), _, _, _, _⟩) (x := aDd x) rfl rfl (zax 46 (.tmp 3) ⟨DB, 0, none⟩ _ rfl (by simp [Act.eval, q3]) hl) ⟨_, rfl, hI, fun o' ho hx => ⟨hx (by rw [show Rg.zf (Rg.opsOf Tryd.f5 7) 1 = some 33 by kernel_rfl]; simp), fun k hd h => zb1 hd (Below.refl _ _) ho h⟩⟩
    · intro bb w' hf hI hA
      clear hi'
      have q33 : bb.tmps[33]? = some _ := hf.tmp (k := 1) rfl (by rw [ha]; decide) (hA 1 (by kernel_rfl) (.inl rfl))
      refine Rg.jy (o := ⟨some 34, Op.call { callee := Callee.value (Operand.func 15), args := #[Operand.tmp 33], argTypes := _ }, _, _, _, _⟩) rfl rfl (by clear hA hOD r1 r2 hA2 hD; simp only [execOp, resolve]; go_simp) (zfg x w') ?_
      rintro e w2 ⟨rfl, hb2⟩
      exact ⟨_, rfl, _, rfl, onto hI hb2, fun o' ho hx => ⟨hx (by rw [show Rg.zf (Rg.opsOf Tryd.f5 7) 2 = some 34 by kernel_rfl]; simp), fun k hd h => zb1 hd hb2 ho h⟩⟩
    · intro bb w' hf hI hA
      clear hi'
      have q32 : bb.tmps[32]? = some _ := hf.tmp (k := 0) rfl (by rw [ha]; decide) (hA 0 (by kernel_rfl) (.inl rfl))
      have q34 : bb.tmps[34]? = some _ := hf.tmp (k := 2) rfl (by rw [ha]; decide) (hA 2 (by kernel_rfl) (.inl rfl))
      refine Rg.jy (o := ⟨some 35, Op.call { callee := Callee.value (Operand.func 8), args := #[Operand.tmp 32, Operand.tmp 34], argTypes := _ }, _, _, _, _⟩) rfl rfl (by clear hA hOD r1 r2 hA2 hD; simp only [execOp, resolve]; go_simp) (hOD _ _ _ _ w' hI ⟨r1.below hI, r2.below hI⟩) ?_
      rintro e w2 ⟨v1, v2, rfl, hN2, hb2⟩
      exact ⟨_, rfl, _, rfl, onto hI hb2, fun o' ho hx => ⟨⟨v1, v2, hx (by rw [show Rg.zf (Rg.opsOf Tryd.f5 7) 3 = some 35 by kernel_rfl]; simp), za0 hN2 hI.size⟩, fun k hd h => zb1 hd hb2 ho h⟩⟩
    · intro bb w' hf hI hA
      clear hi'
      obtain ⟨v1, v2, hv, hn2⟩ := hA 3 (by kernel_rfl) (.inl rfl)
      have q35 : bb.tmps[35]? = some _ := hf.tmp (k := 3) rfl (by rw [ha]; decide) hv
      exact Rg.zh (o := ⟨some 31, Op.move (Operand.tmp 35), _, _, _, _⟩) (x := .tuple #[.agg #[v1, v2], .int .i64 c]) rfl rfl (by clear hA hOD r1 r2 hA2 hD hv hn2; simp only [execOp]; go_simp) ⟨_, rfl, hI, fun o' ho hx => ⟨⟨v1, v2, hx (by rw [show Rg.zf (Rg.opsOf Tryd.f5 7) 4 = some 31 by kernel_rfl]; simp), hn2⟩, fun k hd h => zb1 hd (Below.refl _ _) ho h⟩⟩
    · intro bb w' hf hI hA
      clear hi'
      obtain ⟨v1, v2, hv, hn2⟩ := hA 4 (by kernel_rfl) (.inl rfl)
      have q31 : bb.tmps[31]? = some _ := hf.tmp (k := 4) rfl (by rw [ha]; decide) hv
      exact Rg.zh (o := ⟨some 36, Op.extract (Operand.tmp 31) 0, _, _, _, _⟩) (x := .agg #[v1, v2]) rfl rfl (by clear hA hOD r1 r2 hA2 hD hv hn2; simp only [execOp]; go_simp) ⟨_, rfl, hI, fun o' ho hx => ⟨⟨v1, v2, hx (by rw [show Rg.zf (Rg.opsOf Tryd.f5 7) 5 = some 36 by kernel_rfl]; simp), hn2⟩, fun k hd h => zb1 hd (Below.refl _ _) ho h⟩⟩
    · intro bb w' hf hI hA
      clear hi'
      obtain ⟨v1, v2, hv, hn2⟩ := hA 4 (by kernel_rfl) (.inl rfl)
      have q31 : bb.tmps[31]? = some _ := hf.tmp (k := 4) rfl (by rw [ha]; decide) hv
      exact Rg.zh (o := ⟨some 37, Op.extract (Operand.tmp 31) 1, _, _, _, _⟩) (x := .int .i64 c) rfl rfl (by clear hA hOD r1 r2 hA2 hD hv hn2; simp only [execOp]; go_simp) ⟨_, rfl, hI, fun o' ho hx => ⟨hx (by rw [show Rg.zf (Rg.opsOf Tryd.f5 7) 6 = some 37 by kernel_rfl]; simp), fun k hd h => zb1 hd (Below.refl _ _) ho h⟩⟩
    · intro bb w' hf hI hA
      clear hi'
      clear hA hOD r1 r2 hA2 hD
      have hb2 : Below w'.heap.size w' (w'.alloc (.cells #[.slice none 0 0, .slice none 0 0] 27)) := (Below.refl _ _).alloc (Nat.le_refl _) _
      exact Rg.zh (o := ⟨some 9, Op.alloc 27, _, _, _, _⟩) (x := .pointer (some ⟨w'.heap.size, 0, none⟩)) (w' := w'.alloc (.cells #[.slice none 0 0, .slice none 0 0] 27)) rfl rfl (by simp only [execOp]; go_simp) ⟨_, rfl, onto hI hb2, fun o' ho hx => ⟨⟨_, hx (by rw [show Rg.zf (Rg.opsOf Tryd.f5 7) 7 = some 9 by kernel_rfl]; simp), hI.size, PB.new _ _ _⟩, fun k hd h => zb1 hd hb2 ho h⟩⟩
    · intro bb w' hf hI hA
      clear hi'
      obtain ⟨B, hp, hB, hP⟩ := hA 7 (by kernel_rfl) (.inr rfl)
      obtain ⟨v1, v2, hv, hn2⟩ := hA 5 (by kernel_rfl) (.inl rfl)
      obtain ⟨a1, c1, a2, c2, rfl, rfl⟩ := hn2.form
      have qv : bb.tmps[36]? = some _ := hf.tmp (k := 5) rfl (by rw [ha]; decide) hv
      have qp : bb.tmps[9]? = some _ := hf.tmp (k := 7) rfl (by rw [ha]; decide) hp
      obtain ⟨e0, e1⟩ := hP.two
      have f0 := hP.frozen 0
      have f1 := hP.frozen 1
      have hP1 : PB (w'.setCell ⟨B, 0, none⟩ (.slice a1 L1.length c1)) B #[(.slice a1 L1.length c1), .slice none 0 0] 27 := hP.put 0 (.slice a1 L1.length c1) (by simp)
      have hP2 : PB ((w'.setCell ⟨B, 0, none⟩ (.slice a1 L1.length c1)).setCell ⟨B, 1, none⟩ (.slice a2 L2.length c2)) B #[(.slice a1 L1.length c1), (.slice a2 L2.length c2)] 27 := hP1.put 1 (.slice a2 L2.length c2) (by simp)
      have hN2 := yl (yl hn2 hP (by decide) (by decide) 0 (.slice a1 L1.length c1)) hP1 (by decide) (by decide) 1 (.slice a2 L2.length c2)
      have hb2 := (hI.setCell (p := ⟨B, 0, none⟩) hB (.slice a1 L1.length c1)).setCell (p := ⟨B, 1, none⟩) hB (.slice a2 L2.length c2)
      refine Rg.zbe (o := ⟨none, Op.store 27 (Operand.tmp 9) (Operand.tmp 36), _, _, _, _⟩) (w' := (w'.setCell ⟨B, 0, none⟩ (.slice a1 L1.length c1)).setCell ⟨B, 1, none⟩ (.slice a2 L2.length c2)) rfl rfl (by clear hA hOD r1 r2 hA2 hD hP hP1 hP2 hN2 hb2 hn2 hv hp hI; simp only [execOp]; go_simp) ?_
      refine ⟨_, rfl, hb2, fun o' ho _ => ⟨⟨B, _, _, (ho 7 (by decide)).trans hp, hB, hP2, hN2⟩, fun k hd h => ?_⟩⟩
      have g9 := Rg.zdl hd
      have g8 : k ≠ 7 := fun e => by subst e; exact Rg.zft hd (by kernel_rfl)
      exact sameOA7 g8 g9 (ho k g9) (zfy (o' := o') g8 g9 hP1 (zfy (o' := o') g8 g9 hP h))
    · intro bb w' hf hI hA
      clear hi'
      have q37 : bb.tmps[37]? = some _ := hf.tmp (k := 6) rfl (by rw [ha]; decide) (hA 6 (by kernel_rfl) (.inl rfl))
      exact Rg.zh (o := ⟨some 10, Op.assign (Operand.tmp 37), _, _, _, _⟩) (x := .int .i64 c) rfl rfl (by clear hA hOD r1 r2 hA2 hD; simp only [execOp]; go_simp) ⟨_, rfl, hI, fun o' ho hx => ⟨hx (by rw [show Rg.zf (Rg.opsOf Tryd.f5 7) 9 = some 10 by kernel_rfl]; simp), fun k hd h => zb1 hd (Below.refl _ _) ho h⟩⟩
theorem dOA7_0 : Rg.zf (Rg.opsOf Tryd.f5 7) 0 = some 32 := by kernel_rfl
theorem dOA7_1 : Rg.zf (Rg.opsOf Tryd.f5 7) 1 = some 33 := by kernel_rfl
theorem dOA7_2 : Rg.zf (Rg.opsOf Tryd.f5 7) 2 = some 34 := by kernel_rfl
theorem dOA7_3 : Rg.zf (Rg.opsOf Tryd.f5 7) 3 = some 35 := by kernel_rfl
theorem dOA7_4 : Rg.zf (Rg.opsOf Tryd.f5 7) 4 = some 31 := by kernel_rfl
theorem dOA7_5 : Rg.zf (Rg.opsOf Tryd.f5 7) 5 = some 36 := by kernel_rfl
theorem dOA7_6 : Rg.zf (Rg.opsOf Tryd.f5 7) 6 = some 37 := by kernel_rfl
theorem dOA7_7 : Rg.zf (Rg.opsOf Tryd.f5 7) 7 = some 9 := by kernel_rfl
theorem dOA7_8 : Rg.zf (Rg.opsOf Tryd.f5 7) 8 = none := by kernel_rfl
theorem dOA7_9 : Rg.zf (Rg.opsOf Tryd.f5 7) 9 = some 10 := by kernel_rfl
theorem layOA7 {a b : Act} (hf : Rg.Fr (Rg.opsOf Tryd.f5 7) a b) : b = (((((((((a.put (some 32) (Rg.out (Rg.opsOf Tryd.f5 7) b 0)).put (some 33) (Rg.out (Rg.opsOf Tryd.f5 7) b 1)).put (some 34) (Rg.out (Rg.opsOf Tryd.f5 7) b 2)).put (some 35) (Rg.out (Rg.opsOf Tryd.f5 7) b 3)).put (some 31) (Rg.out (Rg.opsOf Tryd.f5 7) b 4)).put (some 36) (Rg.out (Rg.opsOf Tryd.f5 7) b 5)).put (some 37) (Rg.out (Rg.opsOf Tryd.f5 7) b 6)).put (some 9) (Rg.out (Rg.opsOf Tryd.f5 7) b 7)).put (some 10) (Rg.out (Rg.opsOf Tryd.f5 7) b 9)) := by
  have h := hf.chain
  rw [zc5, show List.range 10 = [0, 1, 2, 3, 4, 5, 6, 7, 8, 9] from by decide] at h
  simp only [List.foldl_cons, List.foldl_nil, dOA7_0, dOA7_1, dOA7_2, dOA7_3, dOA7_4, dOA7_5, dOA7_6, dOA7_7, dOA7_8, dOA7_9, pnR2] at h
  exact h
def zbs (w0 : World) (ao ad : Option Addr) (cap dcap : Nat) (os : List Od) (ds : List Ds) (x : Dd) (c : Int) (L1 : List Od) (L2 : List Ds) (k : Nat) (o : Nat → Value) (w : World) : Prop :=
  match k with
  | 0 => o 0 = .agg #[.slice ao os.length cap, .slice ad ds.length dcap]
  | 1 => ∃ a1 c1 a2 c2, o 1 = .agg #[.slice a1 os.length c1, .slice a2 ds.length c2] ∧ Cp.CRw w (.slice a1 os.length c1) (.slice a2 ds.length c2) os ds
  | 2 => o 2 = aDd x
  | 3 => o 3 = aDd x
  | 4 => ∃ v1 v2, o 4 = .tuple #[.agg #[v1, v2], .int .i64 c] ∧ Cp.zq w (w0.heap.size) v1 v2 L1 L2
  | 5 => ∃ v1 v2, o 5 = .tuple #[.agg #[v1, v2], .int .i64 c] ∧ Cp.zq w (w0.heap.size) v1 v2 L1 L2
  | 6 => ∃ v1 v2, o 6 = .agg #[v1, v2] ∧ Cp.zq w (w0.heap.size) v1 v2 L1 L2
  | 7 => o 7 = .int .i64 c
  | 8 => ∃ B, o 8 = .pointer (some ⟨B, 0, none⟩) ∧ w0.heap.size ≤ B ∧ PB w B #[.slice none 0 0, .slice none 0 0] 27
  | 9 => ∃ B v1 v2, o 8 = .pointer (some ⟨B, 0, none⟩) ∧ w0.heap.size ≤ B ∧ PB w B #[v1, v2] 27 ∧ Cp.zq w (w0.heap.size) v1 v2 L1 L2
  | 10 => o 10 = .int .i64 c
  | _ => True
theorem zdj : (Rg.opsOf Tryd.f5 24).size = 11 := by kernel_rfl
theorem zbt {w0 : World} {ao ad : Option Addr} {cap dcap : Nat} {os : List Od} {ds : List Ds} {x : Dd} {c : Int} {L1 : List Od} {L2 : List Ds} {i k : Nat} {o o' : Nat → Value} {w w' : World} (hd : Rg.due .any (Rg.opsOf Tryd.f5 24) (fun k => if k = 8 then some 9 else if k = 1 then some 4 else none) i k = true) (hb : Below w.heap.size w w') (ho : ∀ k, k ≠ i → o' k = o k) (h : zbs w0 ao ad cap dcap os ds x c L1 L2 k o w) : zbs w0 ao ad cap dcap os ds x c L1 L2 k o' w' := by
  have hki := Rg.zdl hd
  have h98 : k = 9 → i ≠ 8 := fun e1 e2 => by subst e1 e2; exact Rg.zfu hd (by kernel_rfl)
  unfold zbs at *
  split at h
  · rw [ho _ hki]; exact h
  · obtain ⟨a1, c1, a2, c2, h1, h2⟩ := h; exact ⟨a1, c1, a2, c2, by rw [ho _ hki]; exact h1, h2.below hb⟩
  · rw [ho _ hki]; exact h
  · rw [ho _ hki]; exact h
  · obtain ⟨v1, v2, h1, h2⟩ := h; exact ⟨v1, v2, by rw [ho _ hki]; exact h1, h2.below hb⟩
  · obtain ⟨v1, v2, h1, h2⟩ := h; exact ⟨v1, v2, by rw [ho _ hki]; exact h1, h2.below hb⟩
  · obtain ⟨v1, v2, h1, h2⟩ := h; exact ⟨v1, v2, by rw [ho _ hki]; exact h1, h2.below hb⟩
  · rw [ho _ hki]; exact h
  · obtain ⟨B, h1, h2, h3⟩ := h; exact ⟨B, by rw [ho _ hki]; exact h1, h2, h3.below hb⟩
  · obtain ⟨B, v1, v2, h1, h2, h3, h4⟩ := h; exact ⟨B, v1, v2, by rw [ho _ (Ne.symm (h98 rfl))]; exact h1, h2, h3.below hb, h4.below hb⟩
  · rw [ho _ hki]; exact h
  · trivial
theorem zf6 {w0 : World} {ao ad : Option Addr} {cap dcap : Nat} {os : List Od} {ds : List Ds} {x : Dd} {c : Int} {L1 : List Od} {L2 : List Ds} {k B j : Nat} {vs : Array Value} {u : Value} {w : World} {o o' : Nat → Value} (hk8 : k ≠ 8) (hk9 : k ≠ 9) (hk1 : k ≠ 1) (hp : PB w B vs 27) (h : zbs w0 ao ad cap dcap os ds x c L1 L2 k o w) : zbs w0 ao ad cap dcap os ds x c L1 L2 k o (w.setCell ⟨B, j, none⟩ u) := by
  unfold zbs at *
  split at h
  · exact h
  · exact (hk1 rfl).elim
  · exact h
  · exact h
  · obtain ⟨v1, v2, h1, h2⟩ := h; exact ⟨v1, v2, h1, yl h2 hp (by decide) (by decide) j u⟩
  · obtain ⟨v1, v2, h1, h2⟩ := h; exact ⟨v1, v2, h1, yl h2 hp (by decide) (by decide) j u⟩
  · obtain ⟨v1, v2, h1, h2⟩ := h; exact ⟨v1, v2, h1, yl h2 hp (by decide) (by decide) j u⟩
  · exact h
  · exact (hk8 rfl).elim
  · exact (hk9 rfl).elim
  · exact h
  · trivial
theorem sameOA24 {w0 : World} {ao ad : Option Addr} {cap dcap : Nat} {os : List Od} {ds : List Ds} {x : Dd} {c : Int} {L1 : List Od} {L2 : List Ds} {k : Nat} {o o' : Nat → Value} {w : World} (hk8 : k ≠ 8) (hk9 : k ≠ 9) (ho : o' k = o k) (h : zbs w0 ao ad cap dcap os ds x c L1 L2 k o w) : zbs w0 ao ad cap dcap os ds x c L1 L2 k o' w := by
  unfold zbs at *
  split at h
  · rw [ho]; exact h
  · rw [ho]; exact h
  · rw [ho]; exact h
  · rw [ho]; exact h
  · rw [ho]; exact h
  · rw [ho]; exact h
  · rw [ho]; exact h
  · rw [ho]; exact h
  · exact (hk8 rfl).elim
  · exact (hk9 rfl).elim
  · rw [ho]; exact h
  · trivial
set_option maxRecDepth 20000 in
set_option maxHeartbeats 8000000 in
theorem regOA24 {Q : Exit → Act → World → Prop} {a : Act} {w0 : World} {ao ad : Option Addr} {cap dcap : Nat} {os : List Od} {ds : List Ds} {x : Dd} {c : Int} {L1 : List Od} {L2 : List Ds} {AB DB : Nat} (ha : a.tmps.size = 104)
    (k2 : a.tmps[2]? = some (.pointer (some ⟨AB, 0, none⟩))) (k3 : a.tmps[3]? = some (.pointer (some ⟨DB, 0, none⟩)))
    (hA2 : PB w0 AB #[.slice ao os.length cap, .slice ad ds.length dcap] 43) (hD : PB w0 DB #[.int .i64 x.k, .int .i64 x.o.id, .int .i64 x.o.p, .int .i64 x.o.d, .int .i64 x.o.n, .int .i64 x.o.f, .int .i64 x.o.e, .int .i64 x.o.c, .int .i64 x.o.s, .bool x.o.two, .int .i64 x.id, .int .i64 x.p, .int .i64 x.d, .int .i64 x.n, .int .i64 x.m, .int .i64 x.b, .int .i64 x.a] 46) (r1 : VRw 9 jb w0 (.slice ao os.length cap) os) (r2 : VRw 5 jk w0 (.slice ad ds.length dcap) ds) (hn : os.length ≤ 1048576) (hm : ds.length ≤ 1048576)
    (hOD : ∀ a1 c1 a2 c2 W, Below w0.heap.size w0 W → Cp.CRw W (.slice a1 os.length c1) (.slice a2 ds.length c2) os ds → Calls Tryd.prog 8 #[.agg #[.slice a1 os.length c1, .slice a2 ds.length c2], aDd x] W (za8 L1 L2 c W))
    (hend : ∀ b' w' B v1 v2, Rg.Fr (Rg.opsOf Tryd.f5 24) a b' → Below w0.heap.size w0 w' → Rg.out (Rg.opsOf Tryd.f5 24) b' 8 = .pointer (some ⟨B, 0, none⟩) → w0.heap.size ≤ B → PB w' B #[v1, v2] 27 → Cp.zq w' w0.heap.size v1 v2 L1 L2 → Rg.out (Rg.opsOf Tryd.f5 24) b' 10 = .int .i64 c → Q .normal b' w') :
    (Code.region 24 (Rg.opsOf Tryd.f5 24) true).wp Tryd.prog Q a w0 := by
  refine Rg.zfl (by kernel_rfl) (fun w' => Below w0.heap.size w0 w') (zbs w0 ao ad cap dcap os ds x c L1 L2) (fun k => if k = 8 then some 9 else if k = 1 then some 4 else none) (by rw [ha, zdj]; kernel_rfl) (jg (Below.refl _ _)) ?_ ?_
  case refine_2 =>
    intro b' w' hf hI hA
    rw [zdj] at hA
    obtain ⟨B, v1, v2, h1, h2, h3, h4⟩ := hA 9 (by decide) rfl
    exact hend b' w' B v1 v2 hf hI h1 h2 h3 h4 (hA 10 (by decide) rfl)
  case refine_1 =>
    clear hend
    intro i' hi'
    rw [zdj] at hi'
    rcases (show i' = 0 ∨ i' = 1 ∨ i' = 2 ∨ i' = 3 ∨ i' = 4 ∨ i' = 5 ∨ i' = 6 ∨ i' = 7 ∨ i' = 8 ∨ i' = 9 ∨ i' = 10 by omega) with rfl | rfl | rfl | rfl | rfl | rfl | rfl | rfl | rfl | rfl | rfl
    · intro bb w' hf hI hA
      clear hi'
      have qs := hf.kept (s := 2) (by rw [zdj]; kernel_rfl) k2
      obtain ⟨e0, e1⟩ := (hA2.below hI).two
      clear hA hOD r1 r2 hA2 hD
      exact Rg.zh (o := ⟨some 80, Op.load 43 (Operand.tmp 2), _, _, _, _⟩) (x := .agg #[.slice ao os.length cap, .slice ad ds.length dcap]) rfl rfl (by simp only [execOp]; go_simp) ⟨_, rfl, hI, fun o' ho hx => ⟨hx (by rw [show Rg.zf (Rg.opsOf Tryd.f5 24) 0 = some 80 by kernel_rfl]; simp), fun k hd h => zbt hd (Below.refl _ _) ho h⟩⟩
    · intro bb w' hf hI hA
      clear hi'
      have q80 : bb.tmps[80]? = some _ := hf.tmp (k := 0) rfl (by rw [ha]; decide) (hA 0 (by kernel_rfl) (.inl rfl))
      refine Rg.jy (o := ⟨some 81, Op.call { callee := Callee.value (Operand.func 14), args := #[Operand.tmp 80], argTypes := _ }, _, _, _, _⟩) rfl rfl (by clear hA hOD r1 r2 hA2 hD; simp only [execOp, resolve]; go_simp) (zd2 _ _ _ _ _ _ os ds w' (r1.below hI) (r2.below hI) hn hm) ?_
      rintro e w2 ⟨a4, c4, a5, c5, M, rfl, o1, o2, -, -, hb2⟩
      exact ⟨_, rfl, _, rfl, onto hI hb2, fun o' ho hx => ⟨⟨a4, c4, a5, c5, hx (by rw [show Rg.zf (Rg.opsOf Tryd.f5 24) 1 = some 81 by kernel_rfl]; simp), o1.row, o2.row⟩, fun k hd h => zbt hd hb2 ho h⟩⟩
    · intro bb w' hf hI hA
      clear hi'
      have q3 := hf.kept (s := 3) (by rw [zdj]; kernel_rfl) k3
      have hl := run_loadVar_row (P := Tryd.prog) w' DB _ 46 #[.int .i64 x.k, .int .i64 x.o.id, .int .i64 x.o.p, .int .i64 x.o.d, .int .i64 x.o.n, .int .i64 x.o.f, .int .i64 x.o.e, .int .i64 x.o.c, .int .i64 x.o.s, .bool x.o.two, .int .i64 x.id, .int .i64 x.p, .int .i64 x.d, .int .i64 x.n, .int .i64 x.m, .int .i64 x.b, .int .i64 x.a] (0, 0) _ (hD.below hI) Tryd.underlying46 rfl (by kernel_rfl)
      exact Rg.zh (o := ⟨some 82, Op.load 46 (Operand.tmp 3), _, _, _, _⟩) (x := aDd x) rfl rfl (zax 46 (.tmp 3) ⟨DB, 0, none⟩ _ rfl (by simp [Act.eval, q3]) hl) ⟨_, rfl, hI, fun o' ho hx => ⟨hx (by rw [show Rg.zf (Rg.opsOf Tryd.f5 24) 2 = some 82 by kernel_rfl]; simp), fun k hd h => zbt hd (Below.refl _ _) ho h⟩⟩
    · intro bb w' hf hI hA
      clear hi'
      have q82 : bb.tmps[82]? = some _ := hf.tmp (k := 2) rfl (by rw [ha]; decide) (hA 2 (by kernel_rfl) (.inl rfl))
      refine Rg.jy (o := ⟨some 83, Op.call { callee := Callee.value (Operand.func 15), args := #[Operand.tmp 82], argTypes := _ }, _, _, _, _⟩) rfl rfl (by clear hA hOD r1 r2 hA2 hD; simp only [execOp, resolve]; go_simp) (zfg x w') ?_
      rintro e w2 ⟨rfl, hb2⟩
      exact ⟨_, rfl, _, rfl, onto hI hb2, fun o' ho hx => ⟨hx (by rw [show Rg.zf (Rg.opsOf Tryd.f5 24) 3 = some 83 by kernel_rfl]; simp), fun k hd h => zbt hd hb2 ho h⟩⟩
    · intro bb w' hf hI hA
      clear hi'
      obtain ⟨a1, c1, a2, c2, hv, hR⟩ := hA 1 (by kernel_rfl) (.inr rfl)
      have q81 : bb.tmps[81]? = some _ := hf.tmp (k := 1) rfl (by rw [ha]; decide) hv
      have q83 : bb.tmps[83]? = some _ := hf.tmp (k := 3) rfl (by rw [ha]; decide) (hA 3 (by kernel_rfl) (.inl rfl))
      refine Rg.jy (o := ⟨some 84, Op.call { callee := Callee.value (Operand.func 8), args := #[Operand.tmp 81, Operand.tmp 83], argTypes := _ }, _, _, _, _⟩) rfl rfl (by clear hA hOD r1 r2 hA2 hD hR hv; simp only [execOp, resolve]; go_simp) (hOD _ _ _ _ w' hI hR) ?_
      rintro e w2 ⟨v1, v2, rfl, hN2, hb2⟩
      exact ⟨_, rfl, _, rfl, onto hI hb2, fun o' ho hx => ⟨⟨v1, v2, hx (by rw [show Rg.zf (Rg.opsOf Tryd.f5 24) 4 = some 84 by kernel_rfl]; simp), za0 hN2 hI.size⟩, fun k hd h => zbt hd hb2 ho h⟩⟩
    · intro bb w' hf hI hA
      clear hi'
      obtain ⟨v1, v2, hv, hn2⟩ := hA 4 (by kernel_rfl) (.inl rfl)
      have q84 : bb.tmps[84]? = some _ := hf.tmp (k := 4) rfl (by rw [ha]; decide) hv
      exact Rg.zh (o := ⟨some 79, Op.move (Operand.tmp 84), _, _, _, _⟩) (x := .tuple #[.agg #[v1, v2], .int .i64 c]) rfl rfl (by clear hA hOD r1 r2 hA2 hD hv hn2; simp only [execOp]; go_simp) ⟨_, rfl, hI, fun o' ho hx => ⟨⟨v1, v2, hx (by rw [show Rg.zf (Rg.opsOf Tryd.f5 24) 5 = some 79 by kernel_rfl]; simp), hn2⟩, fun k hd h => zbt hd (Below.refl _ _) ho h⟩⟩
    · intro bb w' hf hI hA
      clear hi'
      obtain ⟨v1, v2, hv, hn2⟩ := hA 5 (by kernel_rfl) (.inl rfl)
      have q79 : bb.tmps[79]? = some _ := hf.tmp (k := 5) rfl (by rw [ha]; decide) hv
      exact Rg.zh (o := ⟨some 85, Op.extract (Operand.tmp 79) 0, _, _, _, _⟩) (x := .agg #[v1, v2]) rfl rfl (by clear hA hOD r1 r2 hA2 hD hv hn2; simp only [execOp]; go_simp) ⟨_, rfl, hI, fun o' ho hx => ⟨⟨v1, v2, hx (by rw [show Rg.zf (Rg.opsOf Tryd.f5 24) 6 = some 85 by kernel_rfl]; simp), hn2⟩, fun k hd h => zbt hd (Below.refl _ _) ho h⟩⟩
    · intro bb w' hf hI hA
      clear hi'
      obtain ⟨v1, v2, hv, hn2⟩ := hA 5 (by kernel_rfl) (.inl rfl)
      have q79 : bb.tmps[79]? = some _ := hf.tmp (k := 5) rfl (by rw [ha]; decide) hv
      exact Rg.zh (o := ⟨some 86, Op.extract (Operand.tmp 79) 1, _, _, _, _⟩) (x := .int .i64 c) rfl rfl (by clear hA hOD r1 r2 hA2 hD hv hn2; simp only [execOp]; go_simp) ⟨_, rfl, hI, fun o' ho hx => ⟨hx (by rw [show Rg.zf (Rg.opsOf Tryd.f5 24) 7 = some 86 by kernel_rfl]; simp), fun k hd h => zbt hd (Below.refl _ _) ho h⟩⟩
    · intro bb w' hf hI hA
      clear hi'
      clear hA hOD r1 r2 hA2 hD
      have hb2 : Below w'.heap.size w' (w'.alloc (.cells #[.slice none 0 0, .slice none 0 0] 27)) := (Below.refl _ _).alloc (Nat.le_refl _) _
      exact Rg.zh (o := ⟨some 14, Op.alloc 27, _, _, _, _⟩) (x := .pointer (some ⟨w'.heap.size, 0, none⟩)) (w' := w'.alloc (.cells #[.slice none 0 0, .slice none 0 0] 27)) rfl rfl (by simp only [execOp]; go_simp) ⟨_, rfl, onto hI hb2, fun o' ho hx => ⟨⟨_, hx (by rw [show Rg.zf (Rg.opsOf Tryd.f5 24) 8 = some 14 by kernel_rfl]; simp), hI.size, PB.new _ _ _⟩, fun k hd h => zbt hd hb2 ho h⟩⟩
    · intro bb w' hf hI hA
      clear hi'
      obtain ⟨B, hp, hB, hP⟩ := hA 8 (by kernel_rfl) (.inr rfl)
      obtain ⟨v1, v2, hv, hn2⟩ := hA 6 (by kernel_rfl) (.inl rfl)
      obtain ⟨a1, c1, a2, c2, rfl, rfl⟩ := hn2.form
      have qv : bb.tmps[85]? = some _ := hf.tmp (k := 6) rfl (by rw [ha]; decide) hv
      have qp : bb.tmps[14]? = some _ := hf.tmp (k := 8) rfl (by rw [ha]; decide) hp
      obtain ⟨e0, e1⟩ := hP.two
      have f0 := hP.frozen 0
      have f1 := hP.frozen 1
      have hP1 : PB (w'.setCell ⟨B, 0, none⟩ (.slice a1 L1.length c1)) B #[(.slice a1 L1.length c1), .slice none 0 0] 27 := hP.put 0 (.slice a1 L1.length c1) (by simp)
      have hP2 : PB ((w'.setCell ⟨B, 0, none⟩ (.slice a1 L1.length c1)).setCell ⟨B, 1, none⟩ (.slice a2 L2.length c2)) B #[(.slice a1 L1.length c1), (.slice a2 L2.length c2)] 27 := hP1.put 1 (.slice a2 L2.length c2) (by simp)
      have hN2 := yl (yl hn2 hP (by decide) (by decide) 0 (.slice a1 L1.length c1)) hP1 (by decide) (by decide) 1 (.slice a2 L2.length c2)
      have hb2 := (hI.setCell (p := ⟨B, 0, none⟩) hB (.slice a1 L1.length c1)).setCell (p := ⟨B, 1, none⟩) hB (.slice a2 L2.length c2)
      refine Rg.zbe (o := ⟨none, Op.store 27 (Operand.tmp 14) (Operand.tmp 85), _, _, _, _⟩) (w' := (w'.setCell ⟨B, 0, none⟩ (.slice a1 L1.length c1)).setCell ⟨B, 1, none⟩ (.slice a2 L2.length c2)) rfl rfl (by clear hA hOD r1 r2 hA2 hD hP hP1 hP2 hN2 hb2 hn2 hv hp hI; simp only [execOp]; go_simp) ?_
      refine ⟨_, rfl, hb2, fun o' ho _ => ⟨⟨B, _, _, (ho 8 (by decide)).trans hp, hB, hP2, hN2⟩, fun k hd h => ?_⟩⟩
      have g9 := Rg.zdl hd
      have g8 : k ≠ 8 := fun e => by subst e; exact Rg.zft hd (by kernel_rfl)
      have g1 : k ≠ 1 := fun e => by subst e; rw [show Rg.due .any (Rg.opsOf Tryd.f5 24) (fun k => if k = 8 then some 9 else if k = 1 then some 4 else none) 9 1 = false from by kernel_rfl] at hd; cases hd
      exact sameOA24 g8 g9 (ho k g9) (zf6 (o' := o') g8 g9 g1 hP1 (zf6 (o' := o') g8 g9 g1 hP h))
    · intro bb w' hf hI hA
      clear hi'
      have q86 : bb.tmps[86]? = some _ := hf.tmp (k := 7) rfl (by rw [ha]; decide) (hA 7 (by kernel_rfl) (.inl rfl))
      exact Rg.zh (o := ⟨some 15, Op.assign (Operand.tmp 86), _, _, _, _⟩) (x := .int .i64 c) rfl rfl (by clear hA hOD r1 r2 hA2 hD; simp only [execOp]; go_simp) ⟨_, rfl, hI, fun o' ho hx => ⟨hx (by rw [show Rg.zf (Rg.opsOf Tryd.f5 24) 10 = some 15 by kernel_rfl]; simp), fun k hd h => zbt hd (Below.refl _ _) ho h⟩⟩
theorem dOA24_0 : Rg.zf (Rg.opsOf Tryd.f5 24) 0 = some 80 := by kernel_rfl
theorem dOA24_1 : Rg.zf (Rg.opsOf Tryd.f5 24) 1 = some 81 := by kernel_rfl
theorem dOA24_2 : Rg.zf (Rg.opsOf Tryd.f5 24) 2 = some 82 := by kernel_rfl
theorem dOA24_3 : Rg.zf (Rg.opsOf Tryd.f5 24) 3 = some 83 := by kernel_rfl
theorem dOA24_4 : Rg.zf (Rg.opsOf Tryd.f5 24) 4 = some 84 := by kernel_rfl
theorem dOA24_5 : Rg.zf (Rg.opsOf Tryd.f5 24) 5 = some 79 := by kernel_rfl
theorem dOA24_6 : Rg.zf (Rg.opsOf Tryd.f5 24) 6 = some 85 := by kernel_rfl
theorem dOA24_7 : Rg.zf (Rg.opsOf Tryd.f5 24) 7 = some 86 := by kernel_rfl
theorem dOA24_8 : Rg.zf (Rg.opsOf Tryd.f5 24) 8 = some 14 := by kernel_rfl
theorem dOA24_9 : Rg.zf (Rg.opsOf Tryd.f5 24) 9 = none := by kernel_rfl
theorem dOA24_10 : Rg.zf (Rg.opsOf Tryd.f5 24) 10 = some 15 := by kernel_rfl
theorem layOA24 {a b : Act} (hf : Rg.Fr (Rg.opsOf Tryd.f5 24) a b) : b = ((((((((((a.put (some 80) (Rg.out (Rg.opsOf Tryd.f5 24) b 0)).put (some 81) (Rg.out (Rg.opsOf Tryd.f5 24) b 1)).put (some 82) (Rg.out (Rg.opsOf Tryd.f5 24) b 2)).put (some 83) (Rg.out (Rg.opsOf Tryd.f5 24) b 3)).put (some 84) (Rg.out (Rg.opsOf Tryd.f5 24) b 4)).put (some 79) (Rg.out (Rg.opsOf Tryd.f5 24) b 5)).put (some 85) (Rg.out (Rg.opsOf Tryd.f5 24) b 6)).put (some 86) (Rg.out (Rg.opsOf Tryd.f5 24) b 7)).put (some 14) (Rg.out (Rg.opsOf Tryd.f5 24) b 8)).put (some 15) (Rg.out (Rg.opsOf Tryd.f5 24) b 10)) := by
  have h := hf.chain
  rw [zdj, show List.range 11 = [0, 1, 2, 3, 4, 5, 6, 7, 8, 9, 10] from by decide] at h
  simp only [List.foldl_cons, List.foldl_nil, dOA24_0, dOA24_1, dOA24_2, dOA24_3, dOA24_4, dOA24_5, dOA24_6, dOA24_7, dOA24_8, dOA24_9, dOA24_10, pnR2] at h
  exact h
end Go.Proofs.YtmcekefoedgboaaDoor
