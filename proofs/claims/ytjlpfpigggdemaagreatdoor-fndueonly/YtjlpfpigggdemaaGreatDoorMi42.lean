/-
 Merged: U85 U80 U82.
-/
import Derived.Test.YtjlpfpigggdemaaGreatDoorMi41
import Derived.Test.YtjlpfpigggdemaaGreatDoorMi34
import Derived.Test.YtjlpfpigggdemaaGreatDoorMi37
namespace Go.Proofs.YtjlpfpigggdemaaGreatDoor
set_option maxRecDepth 8000
set_option maxHeartbeats 4000000
open Go.RowKit Va Uo
set_option linter.all false
theorem pnD9 (a : Act) (v : Value) : a.put none v = a := rfl
def zb3 (w0 : World) (a1 a2 : Option Addr) (c1 c2 G og n cp : Nat) (os : List Od) (ds : List Ds) (di : Int) (L1 : List Od) (L2 : List Ds) (k : Nat) (o : Nat -> Value) (w : World) : Prop :=
 match k with
 | 0 => o 0 = .agg #[.slice a1 os.length c1, .slice a2 ds.length c2]
 | 1 => o 1 = .slice (some ⟨G, og, none⟩) n cp
 | 2 => o 2 = .pointer (some ⟨G, og, none⟩)
 | 3 => o 3 = .pointer (some ⟨G, og, none⟩)
 | 4 => o 4 = .int .i64 di
 | 5 => o 5 = .agg #[.int .i64 3, .int .i64 0, .int .i64 0, .int .i64 0, .int .i64 0, .int .i64 0, .int .i64 0, .int .i64 0, .int .i64 0, .bool false, .int .i64 di, .int .i64 0, .int .i64 0, .int .i64 0, .int .i64 0, .int .i64 0, .int .i64 0]
 | 6 => ∃ v1 v2, o 6 = .tuple #[.agg #[v1, v2], .int .i64 0] /\ Cp.zo w w0.heap.size v1 v2 L1 L2
 | 7 => ∃ v1 v2, o 7 = .tuple #[.agg #[v1, v2], .int .i64 0] /\ Cp.zo w w0.heap.size v1 v2 L1 L2
 | 8 => ∃ v1 v2, o 8 = .agg #[v1, v2] /\ Cp.zo w w0.heap.size v1 v2 L1 L2
 | 9 => o 9 = .int .i64 0
 | 10 => ∃ B, o 10 = .pointer (some ⟨B, 0, none⟩) /\ w0.heap.size <= B /\ PB w B #[.slice none 0 0, .slice none 0 0] 27
 | 11 => ∃ B v1 v2, o 10 = .pointer (some ⟨B, 0, none⟩) /\ w0.heap.size <= B /\ PB w B #[v1, v2] 27 /\ Cp.zo w w0.heap.size v1 v2 L1 L2
 | 12 => o 12 = .int .i64 0
 | _ => True
theorem zet : (Rg.opsOf Tryz.f3 19).size = 13 := by kernel_rfl
theorem zbp {w0 : World} {a1 a2 : Option Addr} {c1 c2 G og n cp : Nat} {os : List Od} {ds : List Ds} {di : Int} {L1 : List Od} {L2 : List Ds} {i k : Nat} {o o' : Nat -> Value} {w w' : World} (hd : Rg.due .any (Rg.opsOf Tryz.f3 19) (fun k => if k = 10 then some 11 else none) i k = true) (hb : Below w.heap.size w w') (ho : ∀ k, k ≠ i -> o' k = o k) (h : zb3 w0 a1 a2 c1 c2 G og n cp os ds di L1 L2 k o w) : zb3 w0 a1 a2 c1 c2 G og n cp os ds di L1 L2 k o' w' := by
 have hki := Rg.due_ne hd
 have h98 : k = 11 -> i ≠ 10 := fun e1 e2 => by subst e1 e2; exact Rg.due_af hd (by kernel_rfl)
 unfold zb3 at *
 split at h
 ·rw [ho _ hki]; exact h
 ·rw [ho _ hki]; exact h
 ·rw [ho _ hki]; exact h
 ·rw [ho _ hki]; exact h
 ·rw [ho _ hki]; exact h
 ·rw [ho _ hki]; exact h
 ·obtain ⟨v1, v2, h1, h2⟩ := h; exact ⟨v1, v2, by rw [ho _ hki]; exact h1, h2.below hb⟩
 ·obtain ⟨v1, v2, h1, h2⟩ := h; exact ⟨v1, v2, by rw [ho _ hki]; exact h1, h2.below hb⟩
 ·obtain ⟨v1, v2, h1, h2⟩ := h; exact ⟨v1, v2, by rw [ho _ hki]; exact h1, h2.below hb⟩
 ·rw [ho _ hki]; exact h
 ·obtain ⟨B, h1, h2, h3⟩ := h; exact ⟨B, by rw [ho _ hki]; exact h1, h2, h3.below hb⟩
 ·obtain ⟨B, v1, v2, h1, h2, h3, h4⟩ := h; exact ⟨B, v1, v2, by rw [ho _ (Ne.symm (h98 rfl))]; exact h1, h2, h3.below hb, h4.below hb⟩
 ·rw [ho _ hki]; exact h
 ·trivial
theorem zh3 {w0 : World} {a1 a2 : Option Addr} {c1 c2 G og n cp : Nat} {os : List Od} {ds : List Ds} {di : Int} {L1 : List Od} {L2 : List Ds} {k B j : Nat} {vs : Array Value} {u : Value} {w : World} {o : Nat -> Value} (hk8 : k ≠ 10) (hk9 : k ≠ 11) (hp : PB w B vs 27) (h : zb3 w0 a1 a2 c1 c2 G og n cp os ds di L1 L2 k o w) : zb3 w0 a1 a2 c1 c2 G og n cp os ds di L1 L2 k o (w.setCell ⟨B, j, none⟩ u) := by
 unfold zb3 at *
 split at h
 ·exact h
 ·exact h
 ·exact h
 ·exact h
 ·exact h
 ·exact h
 ·obtain ⟨v1, v2, h1, h2⟩ := h; exact ⟨v1, v2, h1, zaf h2 hp (by decide) (by decide) j u⟩
 ·obtain ⟨v1, v2, h1, h2⟩ := h; exact ⟨v1, v2, h1, zaf h2 hp (by decide) (by decide) j u⟩
 ·obtain ⟨v1, v2, h1, h2⟩ := h; exact ⟨v1, v2, h1, zaf h2 hp (by decide) (by decide) j u⟩
 ·exact h
 ·exact (hk8 rfl).elim
 ·exact (hk9 rfl).elim
 ·exact h
 ·trivial
theorem sameDO19 {w0 : World} {a1 a2 : Option Addr} {c1 c2 G og n cp : Nat} {os : List Od} {ds : List Ds} {di : Int} {L1 : List Od} {L2 : List Ds} {k : Nat} {o o' : Nat -> Value} {w : World} (hk8 : k ≠ 10) (hk9 : k ≠ 11) (ho : o' k = o k) (h : zb3 w0 a1 a2 c1 c2 G og n cp os ds di L1 L2 k o w) : zb3 w0 a1 a2 c1 c2 G og n cp os ds di L1 L2 k o' w := by
 unfold zb3 at *
 split at h
 ·rw [ho]; exact h
 ·rw [ho]; exact h
 ·rw [ho]; exact h
 ·rw [ho]; exact h
 ·rw [ho]; exact h
 ·rw [ho]; exact h
 ·rw [ho]; exact h
 ·rw [ho]; exact h
 ·rw [ho]; exact h
 ·rw [ho]; exact h
 ·exact (hk8 rfl).elim
 ·exact (hk9 rfl).elim
 ·rw [ho]; exact h
 ·trivial
set_option maxRecDepth 20000 in
set_option maxHeartbeats 16000000 in
theorem regDO19 {Q : Exit -> Act -> World -> Prop} {a : Act} {w0 : World} {a1 a2 : Option Addr} {c1 c2 G og n cp : Nat} {os : List Od} {ds : List Ds} {di : Int} {L1 : List Od} {L2 : List Ds} {X : Nat} (ha : a.tmps.size = 145)
  (k3 : a.tmps[3]? = some (.pointer (some ⟨X, 0, none⟩))) (k5 : a.tmps[5]? = some (.slice (some ⟨G, og, none⟩) n cp))
  (hA2 : PB w0 X #[.slice a1 os.length c1, .slice a2 ds.length c2] 27) (hn : 0 < n) (hGl : G < w0.heap.size) (s0 : w0.cell? ⟨G, og, none⟩ = some (.int .i64 di))
  (hOD : ∀ W, Below w0.heap.size w0 W -> Calls Tryz.prog 8 #[.agg #[.slice a1 os.length c1, .slice a2 ds.length c2], .agg #[.int .i64 3, .int .i64 0, .int .i64 0, .int .i64 0, .int .i64 0, .int .i64 0, .int .i64 0, .int .i64 0, .int .i64 0, .bool false, .int .i64 di, .int .i64 0, .int .i64 0, .int .i64 0, .int .i64 0, .int .i64 0, .int .i64 0]] W fun e w' => ∃ v1 v2, e = .returned (.tuple #[.agg #[v1, v2], .int .i64 0]) /\ Cp.zo w' W.heap.size v1 v2 L1 L2 /\ Below W.heap.size W w')
  (hend : ∀ b' w' B v1 v2, Rg.Fr (Rg.opsOf Tryz.f3 19) a b' -> Below w0.heap.size w0 w' -> Rg.out (Rg.opsOf Tryz.f3 19) b' 10 = .pointer (some ⟨B, 0, none⟩) -> w0.heap.size <= B -> PB w' B #[v1, v2] 27 -> Cp.zo w' w0.heap.size v1 v2 L1 L2 -> Rg.out (Rg.opsOf Tryz.f3 19) b' 12 = .int .i64 0 -> Q .normal b' w') :
  (Code.region 19 (Rg.opsOf Tryz.f3 19) true).wp Tryz.prog Q a w0 := by
 refine Rg.zk7 (by kernel_rfl) (fun w' => Below w0.heap.size w0 w') (zb3 w0 a1 a2 c1 c2 G og n cp os ds di L1 L2) (fun k => if k = 10 then some 11 else none) (by rw [ha, zet]; kernel_rfl) (jq (Below.refl _ _)) ?_ ?_
 case refine_2 =>
  intro b' w' hf hI hA
  rw [zet] at hA
  obtain ⟨B, v1, v2, h1, h2, h3, h4⟩ := hA 11 (by decide) rfl
  exact hend b' w' B v1 v2 hf hI h1 h2 h3 h4 (hA 12 (by decide) rfl)
 case refine_1 =>
  clear hend
  intro i' hi'
  rw [zet] at hi'
  rcases (show i' = 0 ∨ i' = 1 ∨ i' = 2 ∨ i' = 3 ∨ i' = 4 ∨ i' = 5 ∨ i' = 6 ∨ i' = 7 ∨ i' = 8 ∨ i' = 9 ∨ i' = 10 ∨ i' = 11 ∨ i' = 12 by omega) with rfl | rfl | rfl | rfl | rfl | rfl | rfl | rfl | rfl | rfl | rfl | rfl | rfl
  ·intro bb w' hf hI hA
   clear hi'
   have q3 := hf.kept (s := 3) (by rw [zet]; kernel_rfl) k3
   obtain ⟨e0, e1⟩ := (hA2.below hI).two
   exact Rg.zf (o := ⟨some 108, Op.load 27 (Operand.tmp 3), _, _, _, _⟩) (x := .agg #[.slice a1 os.length c1, .slice a2 ds.length c2]) rfl rfl (by clear hA hOD hA2 s0; simp only [execOp]; go_simp) ⟨_, rfl, hI, fun o' ho hx => ⟨hx (by rw [show Rg.ja (Rg.opsOf Tryz.f3 19) 0 = some 108 by kernel_rfl]; simp), fun k hd h => zbp hd (Below.refl _ _) ho h⟩⟩
  ·intro bb w' hf hI hA
   clear hi'
   have q5 := hf.kept (s := 5) (by rw [zet]; kernel_rfl) k5
   exact Rg.zf (o := ⟨some 109, Op.move (Operand.tmp 5), _, _, _, _⟩) (x := .slice (some ⟨G, og, none⟩) n cp) rfl rfl (by clear hA hOD hA2 s0; simp only [execOp]; go_simp) ⟨_, rfl, hI, fun o' ho hx => ⟨hx (by rw [show Rg.ja (Rg.opsOf Tryz.f3 19) 1 = some 109 by kernel_rfl]; simp), fun k hd h => zbp hd (Below.refl _ _) ho h⟩⟩
  ·intro bb w' hf hI hA
   clear hi'
   have q109 : bb.tmps[109]? = some _ := hf.tmp (k := 1) rfl (by rw [ha]; decide) (hA 1 (by kernel_rfl) (.inl rfl))
   have hn2 : (0 : Int) < (n : Int) := by omega
   exact Rg.zf (o := ⟨some 110, Op.indexAddr 30 (Operand.tmp 109) (Operand.const (.int .i64 0)), _, _, _, _⟩) (x := .pointer (some ⟨G, og, none⟩)) rfl rfl (by clear hA hOD hA2 s0; simp only [execOp]; go_simp) ⟨_, rfl, hI, fun o' ho hx => ⟨hx (by rw [show Rg.ja (Rg.opsOf Tryz.f3 19) 2 = some 110 by kernel_rfl]; simp), fun k hd h => zbp hd (Below.refl _ _) ho h⟩⟩
  ·intro bb w' hf hI hA
   clear hi'
   have q110 : bb.tmps[110]? = some _ := hf.tmp (k := 2) rfl (by rw [ha]; decide) (hA 2 (by kernel_rfl) (.inl rfl))
   exact Rg.zf (o := ⟨some 111, Op.fieldAddr 33 (Operand.tmp 110) 0, _, _, _, _⟩) (x := .pointer (some ⟨G, og, none⟩)) rfl rfl (by clear hA hOD hA2 s0; simp only [execOp]; go_simp) ⟨_, rfl, hI, fun o' ho hx => ⟨hx (by rw [show Rg.ja (Rg.opsOf Tryz.f3 19) 3 = some 111 by kernel_rfl]; simp), fun k hd h => zbp hd (Below.refl _ _) ho h⟩⟩
  ·intro bb w' hf hI hA
   clear hi'
   have q111 : bb.tmps[111]? = some _ := hf.tmp (k := 3) rfl (by rw [ha]; decide) (hA 3 (by kernel_rfl) (.inl rfl))
   have hce : w'.cell? ⟨G, og, none⟩ = some (.int .i64 di) := (hI.cell (p := ⟨G, og, none⟩) hGl).trans s0
   exact Rg.zf (o := ⟨some 112, Op.load 2 (Operand.tmp 111), _, _, _, _⟩) (x := .int .i64 di) rfl rfl (by clear hA hOD hA2 s0; simp only [execOp]; go_simp) ⟨_, rfl, hI, fun o' ho hx => ⟨hx (by rw [show Rg.ja (Rg.opsOf Tryz.f3 19) 4 = some 112 by kernel_rfl]; simp), fun k hd h => zbp hd (Below.refl _ _) ho h⟩⟩
  ·intro bb w' hf hI hA
   clear hi'
   have q112 : bb.tmps[112]? = some _ := hf.tmp (k := 4) rfl (by rw [ha]; decide) (hA 4 (by kernel_rfl) (.inl rfl))
   exact Rg.zf (o := ⟨some 113, Op.build 40 #[(0, Operand.const (.int .i64 3)), (2, Operand.tmp 112)], _, _, _, _⟩) (x := .agg #[.int .i64 3, .int .i64 0, .int .i64 0, .int .i64 0, .int .i64 0, .int .i64 0, .int .i64 0, .int .i64 0, .int .i64 0, .bool false, .int .i64 di, .int .i64 0, .int .i64 0, .int .i64 0, .int .i64 0, .int .i64 0, .int .i64 0]) rfl rfl (by clear hA hOD hA2 s0; simp only [execOp]; go_simp) ⟨_, rfl, hI, fun o' ho hx => ⟨hx (by rw [show Rg.ja (Rg.opsOf Tryz.f3 19) 5 = some 113 by kernel_rfl]; simp), fun k hd h => zbp hd (Below.refl _ _) ho h⟩⟩
  ·intro bb w' hf hI hA
   clear hi'
   have q108 : bb.tmps[108]? = some _ := hf.tmp (k := 0) rfl (by rw [ha]; decide) (hA 0 (by kernel_rfl) (.inl rfl))
   have q113 : bb.tmps[113]? = some _ := hf.tmp (k := 5) rfl (by rw [ha]; decide) (hA 5 (by kernel_rfl) (.inl rfl))
   refine Rg.jr (o := ⟨some 114, Op.call { callee := Callee.value (Operand.func 8), args := #[Operand.tmp 108, Operand.tmp 113], argTypes := _ }, _, _, _, _⟩) rfl rfl (by clear hA hOD hA2 s0; simp only [execOp, resolve]; go_simp) (hOD w' hI) ?_
   rintro e w2 ⟨v1, v2, rfl, hN2, hb2⟩
   exact ⟨_, rfl, _, rfl, onto hI hb2, fun o' ho hx => ⟨⟨v1, v2, hx (by rw [show Rg.ja (Rg.opsOf Tryz.f3 19) 6 = some 114 by kernel_rfl]; simp), zav hN2 hI.size⟩, fun k hd h => zbp hd hb2 ho h⟩⟩
  ·intro bb w' hf hI hA
   clear hi'
   obtain ⟨v1, v2, hv, hn2⟩ := hA 6 (by kernel_rfl) (.inl rfl)
   have q114 : bb.tmps[114]? = some _ := hf.tmp (k := 6) rfl (by rw [ha]; decide) hv
   exact Rg.zf (o := ⟨some 107, Op.move (Operand.tmp 114), _, _, _, _⟩) (x := .tuple #[.agg #[v1, v2], .int .i64 0]) rfl rfl (by clear hA hOD hA2 s0 hv hn2; simp only [execOp]; go_simp) ⟨_, rfl, hI, fun o' ho hx => ⟨⟨v1, v2, hx (by rw [show Rg.ja (Rg.opsOf Tryz.f3 19) 7 = some 107 by kernel_rfl]; simp), hn2⟩, fun k hd h => zbp hd (Below.refl _ _) ho h⟩⟩
  ·intro bb w' hf hI hA
   clear hi'
   obtain ⟨v1, v2, hv, hn2⟩ := hA 7 (by kernel_rfl) (.inl rfl)
   have q107 : bb.tmps[107]? = some _ := hf.tmp (k := 7) rfl (by rw [ha]; decide) hv
   exact Rg.zf (o := ⟨some 115, Op.extract (Operand.tmp 107) 0, _, _, _, _⟩) (x := .agg #[v1, v2]) rfl rfl (by clear hA hOD hA2 s0 hv hn2; simp only [execOp]; go_simp) ⟨_, rfl, hI, fun o' ho hx => ⟨⟨v1, v2, hx (by rw [show Rg.ja (Rg.opsOf Tryz.f3 19) 8 = some 115 by kernel_rfl]; simp), hn2⟩, fun k hd h => zbp hd (Below.refl _ _) ho h⟩⟩
  ·intro bb w' hf hI hA
   clear hi'
   obtain ⟨v1, v2, hv, hn2⟩ := hA 7 (by kernel_rfl) (.inl rfl)
   have q107 : bb.tmps[107]? = some _ := hf.tmp (k := 7) rfl (by rw [ha]; decide) hv
   exact Rg.zf (o := ⟨some 116, Op.extract (Operand.tmp 107) 1, _, _, _, _⟩) (x := .int .i64 0) rfl rfl (by clear hA hOD hA2 s0 hv hn2; simp only [execOp]; go_simp) ⟨_, rfl, hI, fun o' ho hx => ⟨hx (by rw [show Rg.ja (Rg.opsOf Tryz.f3 19) 9 = some 116 by kernel_rfl]; simp), fun k hd h => zbp hd (Below.refl _ _) ho h⟩⟩
  ·intro bb w' hf hI hA
   clear hi'
   clear hA hOD hA2 s0
   have hb2 : Below w'.heap.size w' (w'.alloc (.cells #[.slice none 0 0, .slice none 0 0] 27)) := (Below.refl _ _).alloc (Nat.le_refl _) _
   exact Rg.zf (o := ⟨some 8, Op.alloc 27, _, _, _, _⟩) (x := .pointer (some ⟨w'.heap.size, 0, none⟩)) (w' := w'.alloc (.cells #[.slice none 0 0, .slice none 0 0] 27)) rfl rfl (by simp only [execOp]; go_simp) ⟨_, rfl, onto hI hb2, fun o' ho hx => ⟨⟨_, hx (by rw [show Rg.ja (Rg.opsOf Tryz.f3 19) 10 = some 8 by kernel_rfl]; simp), hI.size, PB.new _ _ _⟩, fun k hd h => zbp hd hb2 ho h⟩⟩
  ·intro bb w' hf hI hA
   clear hi'
   obtain ⟨B, hp, hB, hP⟩ := hA 10 (by kernel_rfl) (.inr rfl)
   obtain ⟨v1, v2, hv, hn2⟩ := hA 8 (by kernel_rfl) (.inl rfl)
   obtain ⟨p1, q1, p2, q2, rfl, rfl⟩ := hn2.form
   have qv : bb.tmps[115]? = some _ := hf.tmp (k := 8) rfl (by rw [ha]; decide) hv
   have qp : bb.tmps[8]? = some _ := hf.tmp (k := 10) rfl (by rw [ha]; decide) hp
   obtain ⟨e0, e1⟩ := hP.two
   have f0 := hP.frozen 0
   have f1 := hP.frozen 1
   have hP1 : PB (w'.setCell ⟨B, 0, none⟩ (.slice p1 L1.length q1)) B #[(.slice p1 L1.length q1), .slice none 0 0] 27 := hP.put 0 (.slice p1 L1.length q1) (by simp)
   have hP2 : PB ((w'.setCell ⟨B, 0, none⟩ (.slice p1 L1.length q1)).setCell ⟨B, 1, none⟩ (.slice p2 L2.length q2)) B #[(.slice p1 L1.length q1), (.slice p2 L2.length q2)] 27 := hP1.put 1 (.slice p2 L2.length q2) (by simp)
   have hN2 := zaf (zaf hn2 hP (by decide) (by decide) 0 (.slice p1 L1.length q1)) hP1 (by decide) (by decide) 1 (.slice p2 L2.length q2)
   have hb2 := (hI.setCell (p := ⟨B, 0, none⟩) hB (.slice p1 L1.length q1)).setCell (p := ⟨B, 1, none⟩) hB (.slice p2 L2.length q2)
   refine Rg.zaq (o := ⟨none, Op.store 27 (Operand.tmp 8) (Operand.tmp 115), _, _, _, _⟩) (w' := (w'.setCell ⟨B, 0, none⟩ (.slice p1 L1.length q1)).setCell ⟨B, 1, none⟩ (.slice p2 L2.length q2)) rfl rfl (by clear hA hOD hA2 s0 hP hP1 hP2 hN2 hb2 hn2 hv hp hI; simp only [execOp]; go_simp) ?_
   refine ⟨_, rfl, hb2, fun o' ho _ => ⟨⟨B, _, _, (ho 10 (by decide)).trans hp, hB, hP2, hN2⟩, fun k hd h => ?_⟩⟩
   have g9 := Rg.due_ne hd
   have g8 : k ≠ 10 := fun e => by subst e; exact Rg.due_dead hd (by kernel_rfl)
   exact sameDO19 g8 g9 (ho k g9) (zh3 g8 g9 hP1 (zh3 g8 g9 hP h))
  ·intro bb w' hf hI hA
   clear hi'
   have q116 : bb.tmps[116]? = some _ := hf.tmp (k := 9) rfl (by rw [ha]; decide) (hA 9 (by kernel_rfl) (.inl rfl))
   exact Rg.zf (o := ⟨some 9, Op.assign (Operand.tmp 116), _, _, _, _⟩) (x := .int .i64 0) rfl rfl (by clear hA hOD hA2 s0; simp only [execOp]; go_simp) ⟨_, rfl, hI, fun o' ho hx => ⟨hx (by rw [show Rg.ja (Rg.opsOf Tryz.f3 19) 12 = some 9 by kernel_rfl]; simp), fun k hd h => zbp hd (Below.refl _ _) ho h⟩⟩
theorem layDO19 {a b : Act} (hf : Rg.Fr (Rg.opsOf Tryz.f3 19) a b) : b = Rg.fl (Rg.opsOf Tryz.f3 19) b 0 [some 108, some 109, some 110, some 111, some 112, some 113, some 114, some 107, some 115, some 116, some 8, none, some 9] a := Rg.ql _ (by kernel_rfl) hf
end Go.Proofs.YtjlpfpigggdemaaGreatDoor
namespace Go.Proofs.YtjlpfpigggdemaaGreatDoor.Uo
open Va
set_option linter.all false
theorem at_of {os : List Od} (hr : Ris os) {k : Nat} {o : Od} (ho : os[k]? = some o) : atO os o.id = (k : Int) := by
 have hk := (List.getElem?_eq_some_iff.1 ho).1
 exact zgf ho (zfi k (by omega) (fun j y hj hy => by have := hr j k y o hj hy ho; omega)) rfl
theorem zeq {os : List Od} {ds : List Ds} {i : Nat} {d : Ds} (hr : Ris os) (hd : ds[i]? = some d) : yj os ds i = true ↔ (∃ o ∈ os, o.id = d.o /\ je o d = true) /\ (i = 0 ∨ (ds.getD (i - 1) default).m <= d.m) := by
 constructor
 ·intro h
  have h0 : 0 <= atO os d.o := by
   unfold yj at h
   simp only [Bool.and_eq_true, decide_eq_true_eq, zbj hd] at h
   exact h.1
  obtain ⟨k, hk⟩ := Int.eq_ofNat_of_zero_le h0
  obtain ⟨o, ho, hid⟩ := zdy hk
  rw [zgb hd hk ho, Bool.and_eq_true, Bool.or_eq_true, decide_eq_true_eq, decide_eq_true_eq] at h
  exact ⟨⟨o, List.mem_of_getElem? ho, hid, h.1⟩, h.2⟩
 ·rintro ⟨⟨o, ho, hid, hh⟩, h2⟩
  obtain ⟨k, hk, rfl⟩ := List.getElem_of_mem ho
  have hg := List.getElem?_eq_getElem hk
  have ha := at_of hr hg
  rw [hid] at ha
  rw [zgb hd ha hg, hh, Bool.true_and, Bool.or_eq_true, decide_eq_true_eq, decide_eq_true_eq]
  exact h2
theorem zho {os os' : List Od} {ds : List Ds} (hr : Ris os) (hr' : Ris os') (h : ∀ o ∈ os, o.s ≠ 1 -> ∃ o' ∈ os', o'.id = o.id /\ o'.c = o.c /\ o'.two = o.two /\ o'.s ≠ 1) {i : Nat} (hi : i < ds.length) (hk : okD os ds i = true) : okD os' ds i = true := by
 have hd := List.getElem?_eq_getElem hi
 unfold okD at *
 rw [Bool.and_eq_true] at *
 refine ⟨?_, hk.2⟩
 obtain ⟨⟨o, ho, hid, hh⟩, h2⟩ := (zeq hr hd).1 hk.1
 have hs : o.s ≠ 1 := by
  intro e
  unfold je at hh
  rw [e] at hh
  simp at hh
 obtain ⟨o', ho', e1, e2, e3, e4⟩ := h o ho hs
 refine (zeq hr' hd).2 ⟨⟨o', ho', e1.trans hid, ?_⟩, h2⟩
 unfold je at *
 rw [e2, e3]
 simp only [Bool.and_eq_true, Bool.not_eq_true', decide_eq_false_iff_not] at *
 exact ⟨hh.1, e4, hh.2.2⟩
theorem ris_pw {os : List Od} : Ris os ↔ os.Pairwise fun a b => a.id < b.id := by
 rw [List.pairwise_iff_getElem]
 constructor
 ·intro h i j hi hj hij
  exact h i j _ _ hij (List.getElem?_eq_getElem hi) (List.getElem?_eq_getElem hj)
 ·intro h i j x y hij hx hy
  obtain ⟨hi, rfl⟩ := List.getElem?_eq_some_iff.1 hx
  obtain ⟨hj, rfl⟩ := List.getElem?_eq_some_iff.1 hy
  exact h i j hi hj hij
theorem zhx {os : List Od} (ha : AllO os) (hr : Ris os) : ∀ i, i < os.length -> qj os i = true := by
 intro i hi
 have hg := List.getElem?_eq_getElem hi
 unfold qj
 rw [jm hg, Bool.and_eq_true, Bool.or_eq_true, decide_eq_true_eq, decide_eq_true_eq]
 refine ⟨ha i _ hg, ?_⟩
 by_cases h0 : i = 0
 ·exact Or.inl h0
 ·have hg' := List.getElem?_eq_getElem (show i - 1 < os.length by omega)
  rw [jm hg']
  exact Or.inr (hr (i - 1) i _ _ (by omega) hg' hg)
theorem zik {os : List Od} (h : ∀ i, i < os.length -> qj os i = true) : AllO os := by
 intro i y hy
 have hi := (List.getElem?_eq_some_iff.1 hy).1
 have := h i hi
 unfold qj at this
 rw [jm hy, Bool.and_eq_true] at this
 exact this.1
theorem cut_ex {os : List Od} (hr : Ris os) (id : Int) : ∃ k, Cut os id k := by
 refine ⟨os.findIdx (fun y => decide (id <= y.id)), List.findIdx_le_length, fun j x hj hx => ?_, fun j x hj hx => ?_⟩
 ·obtain ⟨hl, rfl⟩ := List.getElem?_eq_some_iff.1 hx
  have := List.not_of_lt_findIdx hj
  simp at this
  omega
 ·obtain ⟨hl, rfl⟩ := List.getElem?_eq_some_iff.1 hx
  have hk : os.findIdx (fun y => decide (id <= y.id)) < os.length := by omega
  have h1 := List.findIdx_getElem (w := hk)
  simp only [decide_eq_true_eq] at h1
  by_cases e : os.findIdx (fun y => decide (id <= y.id)) = j
  ·subst e; exact h1
  ·have := hr _ j _ _ (by omega) (List.getElem?_eq_getElem hk) hx
   omega
theorem at_neg {os : List Od} {id : Int} (hr : Ris os) (h : atO os id < 0) : ∀ y ∈ os, y.id ≠ id := by
 intro y hy e
 obtain ⟨k, hk, rfl⟩ := List.getElem_of_mem hy
 have := at_of hr (List.getElem?_eq_getElem hk)
 rw [e] at this
 omega
set_option maxRecDepth 20000 in
set_option maxHeartbeats 16000000 in
theorem ins_ris {os : List Od} {o : Od} (hr : Ris os) (h : atO os o.id < 0) : Ris (yl os o) /\ (∀ y ∈ os, y ∈ yl os o) /\ (yl os o).length = os.length + 1 := by
 obtain ⟨k, hc⟩ := cut_ex hr o.id
 have hn : qm os o.id k = false := by
  cases hq : qm os o.id k with
  | false => rfl
  | true => have := (zbx hr hc hq).1; omega
 have hne := at_neg hr h
 have hkl := hc.1
 rw [zhj hr hc hn]
 have hp := ris_pw.1 hr
 have hp2 : (os.take k ++ os.drop k).Pairwise fun a b => a.id < b.id := by rw [List.take_append_drop]; exact hp
 obtain ⟨p1, p2, p3⟩ := List.pairwise_append.1 hp2
 have ht : ∀ y ∈ os.take k, y.id < o.id := by
  intro y hy
  obtain ⟨j, hj, rfl⟩ := List.getElem_of_mem hy
  rw [List.length_take] at hj
  rw [List.getElem_take]
  exact hc.2.1 j _ (by omega) (List.getElem?_eq_getElem _)
 have hd : ∀ y ∈ os.drop k, o.id < y.id := by
  intro y hy
  have h1 := hne y (List.mem_of_mem_drop hy)
  obtain ⟨j, hj, rfl⟩ := List.getElem_of_mem hy
  rw [List.length_drop] at hj
  rw [List.getElem_drop] at h1 ⊢
  have := hc.2.2 (k + j) _ (by omega) (List.getElem?_eq_getElem (by omega))
  omega
 refine ⟨ris_pw.2 (List.pairwise_append.2 ⟨p1, List.pairwise_cons.2 ⟨hd, p2⟩, fun a ha b hb => ?_⟩), fun y hy => ?_, ?_⟩
 ·rcases List.mem_cons.1 hb with rfl | hb
  ·exact ht a ha
  ·exact p3 a ha b hb
 ·rw [<- List.take_append_drop k os] at hy
  rcases List.mem_append.1 hy with hy | hy
  ·exact List.mem_append_left _ hy
  ·exact List.mem_append_right _ (List.mem_cons_of_mem _ hy)
 ·simp only [List.length_append, List.length_take, List.length_cons, List.length_drop]; omega
theorem set_ris {os : List Od} {k : Nat} {o o' : Od} (hr : Ris os) (ho : os[k]? = some o) (he : o'.id = o.id) : Ris (os.set k o') := by
 intro i j x y hij hx hy
 have hk := (List.getElem?_eq_some_iff.1 ho).1
 have get : ∀ {i : Nat} {x : Od}, (os.set k o')[i]? = some x -> ∃ z, os[i]? = some z /\ z.id = x.id := by
  intro i x hx
  by_cases e : k = i
  ·subst e
   rw [List.getElem?_set_self hk] at hx
   obtain rfl := Option.some.inj hx
   exact ⟨o, ho, he.symm⟩
  ·rw [List.getElem?_set_ne e] at hx
   exact ⟨x, hx, rfl⟩
 obtain ⟨z, hz, ez⟩ := get hx
 obtain ⟨u, hu, eu⟩ := get hy
 rw [<- ez, <- eu]
 exact hr i j z u hij hz hu
structure Given (os : List Od) (ds : List Ds) (x : Dd) (k : Nat) (o : Od) (t : Nat) : Prop where
 at_ : atO os x.id = (k : Int)
 get : os[k]? = some o
 id : o.id = x.id
 s : o.s = 2
 p : x.p = o.p
 d : x.d = o.d
 n : x.n = o.n
 by_ : byB o.two x.b x.a = true
 late : zay ds x.m = false
 len : ds.length ≠ 500
 lt : (t : Int) < o.c
 due : yw ds x.m o t = true
 fst : (vg os ds x.m x.id).getD 0 default = jf o t
 tim : zl x.m = true
 per : zh x.b = true
 also : x.a = -1 ∨ zh x.a = true
theorem ddB5 {x : Dd} (h : ddB x = true) (hk : x.k = 5) : rng x.id 1 100000 = true /\ zl x.m = true /\ zh x.b = true /\ (x.a = -1 ∨ zh x.a = true) := by
 unfold ddB at h
 rw [if_neg (by omega), if_neg (by omega), if_pos hk] at h
 simp only [Bool.and_eq_true, Bool.or_eq_true, decide_eq_true_eq] at h
 exact ⟨h.1, h.2.2.2.2.1, h.2.2.2.2.2.1, h.2.2.2.2.2.2⟩
set_option maxRecDepth 20000 in
set_option maxHeartbeats 16000000 in
theorem given_of {os : List Od} {ds : List Ds} {x : Dd} (hc : ji os ds = true) (hd : doC os ds x = 0) (hk : x.k = 5) : ∃ k o t, Given os ds x k o t := by
 obtain ⟨-, h1, h2⟩ := za5.1 hc
 have hr := zcd h1
 have ha := zik h1
 have hb := zff hd
 obtain ⟨b1, b2, b3, b4⟩ := ddB5 hb hk
 unfold doC at hd
 rw [if_neg (by rw [hb]; simp), if_neg (by omega)] at hd
 by_cases hat : atO os x.id < 0
 ·rw [if_pos hat] at hd; cases hd
 rw [if_neg hat] at hd
 obtain ⟨k, hk'⟩ := Int.eq_ofNat_of_zero_le (show 0 <= atO os x.id by omega)
 obtain ⟨o, ho, hid⟩ := zdy hk'
 rw [hk', show ((k : Int).toNat) = k from rfl, jm ho] at hd
 by_cases hf : yc o.s x.k = false
 ·rw [if_pos hf] at hd; cases hd
 rw [if_neg hf, if_pos hk] at hd
 have hs : o.s = 2 := by
  rw [hk] at hf
  unfold yc at hf
  simpa using hf
 unfold zar at hd
 by_cases e1 : x.p ≠ o.p
 ·rw [if_pos e1] at hd; cases hd
 rw [if_neg e1] at hd
 by_cases e2 : x.d ≠ o.d
 ·rw [if_pos e2] at hd; cases hd
 rw [if_neg e2] at hd
 by_cases e3 : x.n ≠ o.n
 ·rw [if_pos e3] at hd; cases hd
 rw [if_neg e3] at hd
 by_cases e4 : (vg os ds x.m x.id).length = 0
 ·rw [if_pos e4] at hd; cases hd
 rw [if_neg e4] at hd
 by_cases e5 : byB o.two x.b x.a = false
 ·rw [if_pos e5] at hd; cases hd
 rw [if_neg e5] at hd
 by_cases e6 : zay ds x.m = true
 ·rw [if_pos e6] at hd; cases hd
 rw [if_neg e6] at hd
 by_cases e7 : ds.length = 500
 ·rw [if_pos e7] at hd; cases hd
 have hod := ha k o ho
 have hoe : 1 <= o.e := by
  unfold odB at hod
  simp only [Bool.and_eq_true] at hod
  exact (zax.1 hod.2.2.2.2.2.1).1
 have hid1 := zax.1 b1
 have hdl := zhq (ds := ds) (time := x.m) hr (show x.id ≠ 0 by omega) ho hid hs hoe
 have hpos : 0 < (vg os ds x.m x.id).length := by omega
 have hm : (vg os ds x.m x.id)[0] ∈ jh ds x.m o o.c.toNat := by rw [<- hdl]; exact List.getElem_mem _
 obtain ⟨t, ht, he, hdue⟩ := zc9 hm
 refine ⟨k, o, t, hk', ho, hid, hs, by simpa using e1, by simpa using e2, by simpa using e3, by simpa using e5, by simpa using e6, e7, by omega, hdue, ?_, b2, b3, b4⟩
 rw [zee (List.getElem?_eq_getElem hpos)]
 exact he
theorem Given.ds {os : List Od} {ds : List Ds} {x : Dd} {k : Nat} {o : Od} {t : Nat} (h : Given os ds x k o t) (hk : x.k = 5) : ve os x = os /\ qo os ds x = ds ++ [⟨x.id, (t : Int), x.m, x.b, x.a⟩] := by
 refine ⟨by unfold ve; rw [if_neg (by omega), if_pos hk], ?_⟩
 unfold qo
 rw [if_pos hk, h.fst]
 rfl
theorem zej {ds : List Ds} {y : Ds} {i : Nat} (hi : i < ds.length) : (ds ++ [y]).getD i default = ds.getD i default := by
 rw [List.getD_eq_getElem?_getD, List.getD_eq_getElem?_getD, List.getElem?_append_left hi]
theorem getD_end {ds : List Ds} {y : Ds} : (ds ++ [y]).getD ds.length default = y := by
 rw [List.getD_eq_getElem?_getD, List.getElem?_append_right (Nat.le_refl _)]
 simp
theorem zjy {ds : List Ds} {y : Ds} {i j : Nat} (hi : i < ds.length) (hj : j < ds.length) : za6 (ds ++ [y]) i j = za6 ds i j := by
 unfold za6
 rw [zej hi, zej hj]
theorem Given.new {os : List Od} {ds : List Ds} {x : Dd} {k : Nat} {o : Od} {t : Nat} (h : Given os ds x k o t) : ∀ d ∈ ds, ¬ (d.o = x.id /\ d.t = (t : Int)) := by
 intro d hd ⟨e1, e2⟩
 have := h.due
 unfold yw at this
 rw [Bool.and_eq_true, Bool.not_eq_true'] at this
 have h2 : vw ds o.id t = true := by
  unfold vw
  rw [List.any_eq_true]
  exact ⟨d, hd, by rw [e1, e2, h.id]; simp⟩
 rw [this.2] at h2
 cases h2
theorem okD_app {os : List Od} {ds : List Ds} {y : Ds} {i : Nat} (hr : Ris os) (hi : i < ds.length) (h : okD os ds i = true) : okD os (ds ++ [y]) i = true := by
 have hd := List.getElem?_eq_getElem hi
 have hd' : (ds ++ [y])[i]? = some ds[i] := by rw [List.getElem?_append_left hi]; exact hd
 unfold okD at *
 rw [Bool.and_eq_true, List.all_eq_true] at *
 refine ⟨?_, fun j hj => ?_⟩
 ·obtain ⟨q1, q2⟩ := (zeq hr hd).1 h.1
  refine (zeq hr hd').2 ⟨q1, ?_⟩
  rcases q2 with q2 | q2
  ·exact Or.inl q2
  ·rw [zej (by omega)]; exact Or.inr q2
 ·have hj' := List.mem_range.1 hj
  rw [zjy hi (by omega)]
  exact h.2 j hj
set_option maxRecDepth 20000 in
set_option maxHeartbeats 16000000 in
theorem zkp {os : List Od} {ds : List Ds} {x : Dd} {k : Nat} {o : Od} {t : Nat} (hc : ji os ds = true) (h : Given os ds x k o t) : ji os (ds ++ [⟨x.id, (t : Int), x.m, x.b, x.a⟩]) = true := by
 obtain ⟨h0, h1, h2⟩ := za5.1 hc
 have hr := zcd h1
 have hl := h.len
 refine za5.2 ⟨⟨h0.1, by rw [List.length_append]; simp; omega⟩, h1, fun i hi => ?_⟩
 rw [List.length_append, List.length_singleton] at hi
 by_cases e : i < ds.length
 ·exact okD_app hr e (h2 i e)
 obtain rfl : i = ds.length := by omega
 have hd' : (ds ++ [(⟨x.id, (t : Int), x.m, x.b, x.a⟩ : Ds)])[ds.length]? = some ⟨x.id, (t : Int), x.m, x.b, x.a⟩ := by rw [List.getElem?_append_right (Nat.le_refl _)]; simp
 unfold okD
 rw [Bool.and_eq_true, List.all_eq_true]
 refine ⟨(zeq hr hd').2 ⟨⟨o, List.mem_of_getElem? h.get, h.id, ?_⟩, ?_⟩, fun j hj => ?_⟩
 ·have hby := h.by_
  have hal := h.also
  unfold je za3
  unfold byB at hby
  simp only [Bool.and_eq_true, Bool.not_eq_true', decide_eq_false_iff_not, decide_eq_true_eq]
  refine ⟨⟨by omega, h.lt⟩, by rw [h.s]; omega, h.tim, ?_⟩
  cases hq : o.two with
  | false =>
   rw [hq] at hby
   simp at hby
   simp [h.per, hby]
  | true =>
   rw [hq] at hby
   simp at hby
   have : zh x.a = true := by rcases hal with e | e; exact absurd e hby.1; exact e
   simp [h.per, this]
   exact fun e => hby.2 e.symm
 ·by_cases e0 : ds.length = 0
  ·exact Or.inl e0
  ·right
   rw [zej (by omega)]
   have := h.late
   unfold zay at this
   rw [decide_eq_true (by omega), Bool.true_and, decide_eq_false_iff_not] at this
   show _ <= x.m
   omega
 ·have hj' := List.mem_range.1 hj
  unfold za6
  rw [getD_end, zej hj', Bool.not_eq_true', Bool.and_eq_false_iff, decide_eq_false_iff_not, decide_eq_false_iff_not]
  have hm := List.getElem?_eq_getElem hj'
  rw [zbj hm]
  have := h.new ds[j] (List.getElem_mem _)
  by_cases q : ds[j].o = x.id
  ·exact Or.inr (fun e => this ⟨q, e⟩)
  ·exact Or.inl q
set_option maxRecDepth 20000 in
set_option maxHeartbeats 16000000 in
theorem zjg {os : List Od} {ds : List Ds} {x : Dd} (hc : ji os ds = true) (hd : doC os ds x = 0) : ji (ve os x) (qo os ds x) = true := by
 obtain ⟨h0, h1, h2⟩ := za5.1 hc
 have hr := zcd h1
 have ha := zik h1
 have hb := zff hd
 by_cases k5 : x.k = 5
 ·obtain ⟨k, o, t, hg⟩ := given_of hc hd k5
  rw [(hg.ds k5).1, (hg.ds k5).2]
  exact zkp hc hg
 have hal : AllO (ve os x) := by
  have := dO_od (ds := ds) (x := x) ha
  unfold dO at this
  rwa [if_pos hd] at this
 have hds : qo os ds x = ds := by unfold qo; rw [if_neg k5]
 rw [hds]
 unfold doC at hd
 rw [if_neg (by rw [hb]; simp)] at hd
 by_cases k1 : x.k = 1
 ·rw [if_pos k1] at hd
  by_cases e1 : 0 <= atO os x.o.id
  ·rw [if_pos e1] at hd; cases hd
  rw [if_neg e1] at hd
  by_cases e2 : os.length = 100
  ·rw [if_pos e2] at hd; cases hd
  have ho : ve os x = yl os x.o := by unfold ve; rw [if_pos k1]
  rw [ho] at hal ⊢
  obtain ⟨q1, q2, q3⟩ := ins_ris (o := x.o) hr (by omega)
  exact za5.2 ⟨⟨by rw [q3]; omega, h0.2⟩, zhx hal q1, fun i hi => zho hr q1 (fun o ho hs => ⟨o, q2 o ho, rfl, rfl, rfl, hs⟩) hi (h2 i hi)⟩
 ·rw [if_neg k1] at hd
  by_cases hat : atO os x.id < 0
  ·rw [if_pos hat] at hd; cases hd
  obtain ⟨k, hk'⟩ := Int.eq_ofNat_of_zero_le (show 0 <= atO os x.id by omega)
  obtain ⟨o, ho, hid⟩ := zdy hk'
  have hkl := (List.getElem?_eq_some_iff.1 ho).1
  have hos : ve os x = os.set k { o with s := x.k } := by
   unfold ve
   rw [if_neg k1, if_neg k5, hk', show ((k : Int).toNat) = k from rfl, jm ho]
  rw [hos] at hal ⊢
  have hr' := set_ris (o' := { o with s := x.k }) hr ho rfl
  refine za5.2 ⟨⟨by rw [List.length_set]; exact h0.1, h0.2⟩, zhx hal hr', fun i hi => zho hr hr' (fun y hy hs => ?_) hi (h2 i hi)⟩
  obtain ⟨j, hj, rfl⟩ := List.getElem_of_mem hy
  by_cases e : k = j
  ·subst e
   have hoe : os[k] = o := (List.getElem?_eq_some_iff.1 ho).2
   rw [hoe]
   exact ⟨{ o with s := x.k }, List.mem_of_getElem? (List.getElem?_set_self hkl), rfl, rfl, rfl, k1⟩
  ·exact ⟨os[j], List.mem_of_getElem? (by rw [List.getElem?_set_ne e]; exact List.getElem?_eq_getElem hj), rfl, rfl, rfl, hs⟩
end Go.Proofs.YtjlpfpigggdemaaGreatDoor.Uo
namespace Go.Proofs.YtjlpfpigggdemaaGreatDoor.Uo
open Va
set_option linter.all false
theorem ze9 {os : List Od} {ds : List Ds} {time : Int} {d : Du} : ∀ {n : Nat}, n <= os.length -> d ∈ zad os ds time n -> ∃ (k : Nat) (o : Od) (t : Nat), k < n /\ os[k]? = some o /\ o.s = 2 /\ t < o.c.toNat /\ d = jf o t /\ yw ds time o t = true
 | 0, _, h => by cases h
 | n + 1, hn, h => by
  obtain ⟨o, ho⟩ : ∃ o, os[n]? = some o := ⟨_, List.getElem?_eq_getElem (by omega)⟩
  rw [zad, jm ho] at h
  by_cases hs : o.s = 2
  ·rw [if_pos hs] at h
   rcases List.mem_append.1 h with h | h
   ·obtain ⟨k, o', t, h1, h2⟩ := ze9 (by omega) h
    exact ⟨k, o', t, by omega, h2⟩
   ·obtain ⟨t, h1, h2, h3⟩ := zc9 h
    exact ⟨n, o, t, by omega, ho, hs, h1, h2, h3⟩
  ·rw [if_neg hs] at h
   obtain ⟨k, o', t, h1, h2⟩ := ze9 (by omega) h
   exact ⟨k, o', t, by omega, h2⟩
theorem zh2 {os : List Od} {ds : List Ds} {time : Int} {k : Nat} {o o' : Od} (ho : os[k]? = some o) (hs : o.s = 2) (hs' : o'.s ≠ 2) : ∀ n, n <= os.length -> (zad (os.set k o') ds time n).length + (if k < n then (jh ds time o o.c.toNat).length else 0) = (zad os ds time n).length
 | 0, _ => by simp [zad]
 | n + 1, hn => by
  have ih := zh2 (ds := ds) (time := time) ho hs hs' n (by omega)
  obtain ⟨y, hy⟩ : ∃ y, os[n]? = some y := ⟨_, List.getElem?_eq_getElem (by omega)⟩
  have hk := (List.getElem?_eq_some_iff.1 ho).1
  by_cases he : k = n
  ·subst he
   rw [ho] at hy
   cases hy
   rw [zad, zad, jm ho, jm (show (os.set k o')[k]? = some o' by rw [List.getElem?_set_self hk]), if_pos hs, if_neg hs', if_pos (Nat.lt_succ_self _), List.length_append]
   rw [if_neg (Nat.lt_irrefl _)] at ih
   omega
  ·rw [zad, zad, jm hy, jm (show (os.set k o')[n]? = some y by rw [List.getElem?_set_ne he]; exact hy)]
   have e : (if k < n + 1 then (jh ds time o o.c.toNat).length else 0) = if k < n then (jh ds time o o.c.toNat).length else 0 := by
    by_cases hkn : k < n
    ·rw [if_pos hkn, if_pos (by omega)]
    ·rw [if_neg hkn, if_neg (by omega)]
   rw [e]
   by_cases hz : y.s = 2
   ·rw [if_pos hz, if_pos hz, List.length_append, List.length_append]; omega
   ·rw [if_neg hz, if_neg hz]; exact ih
theorem zh6 {os : List Od} {ds : List Ds} (hc : ji os ds = true) : Ris os /\ ∀ (i : Nat) (x : Od), os[i]? = some x -> odB x = true := by
 obtain ⟨_, h2, _⟩ := za5.1 hc
 refine ⟨zcd h2, fun i x hx => ?_⟩
 have := h2 i (List.getElem?_eq_some_iff.1 hx).1
 unfold qj at this
 rw [jm hx, Bool.and_eq_true] at this
 exact this.1
theorem od_e {x : Od} (h : odB x = true) : 1 <= x.e /\ 1 <= x.id /\ x.id <= 100000 /\ x.c <= 200 := by
 simp only [odB, rng, Bool.and_eq_true, decide_eq_true_eq] at h
 omega
theorem ze1 {os : List Od} {ds : List Ds} {time : Int} (hc : ji os ds = true) : zbs (vg os ds time 0) /\ (vg os ds time 0).Perm (zad os ds time os.length) := by
 obtain ⟨hr, ho⟩ := zh6 hc
 have := zfy (ds := ds) (time := time) hr (fun i hi => by
  obtain ⟨x, hx⟩ : ∃ x, os[i]? = some x := ⟨_, List.getElem?_eq_getElem hi⟩
  rw [jm hx]; exact (od_e (ho i x hx)).1) os.length (Nat.le_refl _)
 exact ⟨this.1, this.2.1⟩
theorem zi7 {os : List Od} {ds : List Ds} {time : Int} (hc : ji os ds = true) {d : Du} (hd : d ∈ vg os ds time 0) : (time - 60 <= d.s /\ d.s <= time + 30) /\ (∀ y ∈ ds, ¬ (y.o = d.o /\ y.t = d.t)) /\ ∃ (k : Nat) (o : Od), os[k]? = some o /\ o.s = 2 /\ o.id = d.o /\ 0 < (jh ds time o o.c.toNat).length := by
 obtain ⟨k, o, t, hk, ho, hs, ht, rfl, hb⟩ := ze9 (Nat.le_refl _) ((ze1 hc).2.mem_iff.1 hd)
 have hb' := hb
 unfold yw at hb'
 rw [Bool.and_eq_true] at hb'
 obtain ⟨h1, h2⟩ := hb'
 refine ⟨by simpa [rng] using h1, ?_, k, o, ho, hs, rfl, List.length_pos_of_mem (ziu hb ht)⟩
 intro y hy hyy
 have h3 : vw ds o.id (t : Int) = true := by
  unfold vw
  rw [List.any_eq_true]
  exact ⟨y, hy, by simpa [jf] using hyy⟩
 rw [h3] at h2
 cases h2
theorem zjv {os : List Od} {ds : List Ds} {time : Int} (hc : ji os ds = true) {i : Nat} {a b : Du} (ha : (vg os ds time 0)[i]? = some a) (hb : (vg os ds time 0)[i + 1]? = some b) : a.s <= b.s := by
 have h := (ze1 (ds := ds) (time := time) hc).1
 unfold zbs at h
 obtain ⟨h1, rfl⟩ := List.getElem?_eq_some_iff.1 ha
 obtain ⟨h2, rfl⟩ := List.getElem?_eq_some_iff.1 hb
 have := List.pairwise_iff_getElem.1 h i (i + 1) h1 h2 (Nat.lt_succ_self _)
 unfold ltD at this
 omega
def qi (id : Int) : Dd := ⟨3, default, id, 0, 0, 0, 0, 0, 0⟩
set_option maxRecDepth 20000 in
set_option maxHeartbeats 16000000 in
theorem due_held {os : List Od} {ds : List Ds} {time : Int} (hc : ji os ds = true) {d : Du} (hd : d ∈ vg os ds time 0) :
  doC os ds (qi d.o) = 0 /\ ji (ve os (qi d.o)) (qo os ds (qi d.o)) = true /\ (∀ x ∈ vg (ve os (qi d.o)) (qo os ds (qi d.o)) time 0, x.o ≠ d.o) /\ (vg (ve os (qi d.o)) (qo os ds (qi d.o)) time 0).length < (vg os ds time 0).length := by
 obtain ⟨_, _, k, o, ho, hs, hid, hpos⟩ := zi7 hc hd
 obtain ⟨hr, hod⟩ := zh6 hc
 have hat := at_of hr ho
 rw [hid] at hat
 have he := od_e (hod k o ho)
 have hk := (List.getElem?_eq_some_iff.1 ho).1
 have h0 : doC os ds (qi d.o) = 0 := by
  unfold doC
  have h1 : ddB (qi d.o) = true := by
   simp only [ddB, qi]
   simp [rng]
   omega
  rw [if_neg (by rw [h1]; simp), if_neg (by simp [qi]), if_neg (by show ¬ atO os d.o < 0; omega), show (qi d.o).id = d.o from rfl, hat, show ((k : Int).toNat) = k from rfl, jm ho, if_neg (by rw [hs]; simp [yc, qi]), if_neg (by simp [qi])]
 have hkept := zjg hc h0
 refine ⟨h0, hkept, ?_⟩
 have e1 : ve os (qi d.o) = os.set k { o with s := 3 } := by
  unfold ve
  rw [if_neg (by simp [qi]), if_neg (by simp [qi]), show (qi d.o).id = d.o from rfl, hat, show ((k : Int).toNat) = k from rfl, jm ho]
  rfl
 have e2 : qo os ds (qi d.o) = ds := by unfold qo; rw [if_neg (by simp [qi])]
 rw [e1, e2] at hkept ⊢
 have hperm := (ze1 (ds := ds) (time := time) hkept).2
 constructor
 ·intro x hx hxo
  obtain ⟨j, y, t, hj, hy, hys, _, rfl, _⟩ := ze9 (Nat.le_refl _) (hperm.mem_iff.1 hx)
  have hxo' : y.id = o.id := by rw [hid]; exact hxo
  by_cases hjk : k = j
  ·subst hjk
   rw [List.getElem?_set_self hk] at hy
   cases hy
   cases hys
  ·rw [List.getElem?_set_ne hjk] at hy
   rcases Nat.lt_or_gt_of_ne hjk with h | h
   ·have := hr k j o y h ho hy; omega
   ·have := hr j k y o h hy ho; omega
 ·rw [hperm.length_eq, (ze1 (ds := ds) (time := time) hc).2.length_eq]
  have h := zh2 (ds := ds) (time := time) (o' := { o with s := 3 }) ho hs (by show (3 : Int) ≠ 2; decide) os.length (Nat.le_refl _)
  rw [if_pos hk] at h
  rw [List.length_set]
  omega
end Go.Proofs.YtjlpfpigggdemaaGreatDoor.Uo
