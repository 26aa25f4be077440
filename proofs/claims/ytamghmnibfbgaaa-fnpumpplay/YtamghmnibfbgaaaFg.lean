/-
  A pump that is drawn of a cursor.
-/
import Derived.Test.YtamghmnibfbgaaaFe
import Derived.Test.YtamghmnibfbgaaaRj
import Derived.BigQuiet
namespace Go.Proofs.Ytamghmnibfbgaaa
open Go.RowKit Va Ba
set_option linter.all false

def FW5 (g V : Nat) (p : Pm) (k : Nat) (v : Value) (w : World) : Prop :=
  match k with
  | 0 => v = .agg #[.int .i64 p.lim.sl, .int .i64 p.lim.sh, .int .i64 p.lim.hl, .int .i64 p.lim.hh, .int .i64 p.rate, .int .i64 p.asked, .int .i64 p.st, .bool p.door, .int .i64 p.left, .int .i64 p.given]
  | 1 => v = .pointer (some ⟨g, 0, none⟩)
  | 2 => v = .pointer (some ⟨V, 0, none⟩)
  | 3 => v = .agg #[.int .i64 p.lim.sl, .int .i64 p.lim.sh, .int .i64 p.lim.hl, .int .i64 p.lim.hh]
  | 4 => ∃ c : Ac, v = aAc c
  | 5 => ∃ c : Ac, v = .tuple #[aPm (Ba.step p c).1, .int .i64 (Ba.step p c).2]
  | 6 => ∃ c : Ac, v = .tuple #[aPm (Ba.step p c).1, .int .i64 (Ba.step p c).2]
  | 7 => ∃ c : Ac, v = aPm (Ba.step p c).1
  | 8 => ∃ z : Int, v = .int .i64 z
  | _ => True
def IW5 (w1 : World) (g : Nat) (ao : Option Addr) (cap : Nat) (bs : List Int) (V : Nat) (p : Pm) (l : Array Bool) (w' : World) : Prop :=
  (l.getD 9 false = false → Cur w' g ao cap bs ∧ Keep g w1 w') ∧ (l.getD 9 false = true → ∃ w'' c, Cur w'' g ao cap bs ∧ Keep g w1 w'' ∧ w' = ((((((((((w''.setCell ⟨V, 0, none⟩ (.int .i64 (Ba.step p c).1.lim.sl)).setCell ⟨V, 1, none⟩ (.int .i64 (Ba.step p c).1.lim.sh)).setCell ⟨V, 2, none⟩ (.int .i64 (Ba.step p c).1.lim.hl)).setCell ⟨V, 3, none⟩ (.int .i64 (Ba.step p c).1.lim.hh)).setCell ⟨V, 4, none⟩ (.int .i64 (Ba.step p c).1.rate)).setCell ⟨V, 5, none⟩ (.int .i64 (Ba.step p c).1.asked)).setCell ⟨V, 6, none⟩ (.int .i64 (Ba.step p c).1.st)).setCell ⟨V, 7, none⟩ (.bool (Ba.step p c).1.door)).setCell ⟨V, 8, none⟩ (.int .i64 (Ba.step p c).1.left)).setCell ⟨V, 9, none⟩ (.int .i64 (Ba.step p c).1.given)))
theorem stayW5 {w1 : World} {g : Nat} {ao : Option Addr} {cap : Nat} {bs : List Int} {V : Nat} {p : Pm} {l : Array Bool} {w' : World} {i : Nat} (hi : i ≠ 9) (h9 : l.getD 9 false = false) (hc : Cur w' g ao cap bs) (hk : Keep g w1 w') : IW5 w1 g ao cap bs V p (l.setIfInBounds i true) w' :=
  ⟨fun _ => ⟨hc, hk⟩, fun h => by rw [Rg.set_ne hi, h9] at h; cases h⟩
theorem anyW5 {g V : Nat} {p : Pm} {k : Nat} {v : Value} {w w' : World} (h : FW5 g V p k v w) : FW5 g V p k v w' := by
  unfold FW5 at *
  exact h
theorem sizeW5 : (Rg.opsOf Try.f26 5).size = 10 := by kernel_rfl
theorem dW5_9 : Rg.dstAt (Rg.opsOf Try.f26 5) 9 = none := by kernel_rfl

set_option maxRecDepth 20000 in
set_option maxHeartbeats 8000000 in
theorem regW5 {Q : Exit → Act → World → Prop} {a : Act} {w1 : World} {g : Nat} {ao : Option Addr} {cap : Nat} {bs : List Int} {V : Nat} {p : Pm} (ha : a.tmps.size = 74)
    (k0 : a.tmps[0]? = some (.pointer (some ⟨g, 0, none⟩))) (hc : Cur w1 g ao cap bs) (k3 : a.tmps[3]? = some (.pointer (some ⟨V, 0, none⟩))) (hV : PB w1 V #[.int .i64 p.lim.sl, .int .i64 p.lim.sh, .int .i64 p.lim.hl, .int .i64 p.lim.hh, .int .i64 p.rate, .int .i64 p.asked, .int .i64 p.st, .bool p.door, .int .i64 p.left, .int .i64 p.given] 27) (hVg : V ≠ g) (hRt : Right p)
    (hend : ∀ b' w' (c : Ac), Rg.Fr (Rg.opsOf Try.f26 5) a b' → Cur w' g ao cap bs → Keep g w1 w' → Q .normal b' ((((((((((w'.setCell ⟨V, 0, none⟩ (.int .i64 (Ba.step p c).1.lim.sl)).setCell ⟨V, 1, none⟩ (.int .i64 (Ba.step p c).1.lim.sh)).setCell ⟨V, 2, none⟩ (.int .i64 (Ba.step p c).1.lim.hl)).setCell ⟨V, 3, none⟩ (.int .i64 (Ba.step p c).1.lim.hh)).setCell ⟨V, 4, none⟩ (.int .i64 (Ba.step p c).1.rate)).setCell ⟨V, 5, none⟩ (.int .i64 (Ba.step p c).1.asked)).setCell ⟨V, 6, none⟩ (.int .i64 (Ba.step p c).1.st)).setCell ⟨V, 7, none⟩ (.bool (Ba.step p c).1.door)).setCell ⟨V, 8, none⟩ (.int .i64 (Ba.step p c).1.left)).setCell ⟨V, 9, none⟩ (.int .i64 (Ba.step p c).1.given))) :
    (Code.region 5 (Rg.opsOf Try.f26 5) true).wp Try.prog Q a w1 := by
  refine Rg.region_set (by kernel_rfl) (IW5 w1 g ao cap bs V p) (FW5 g V p) (by rw [ha, sizeW5]; kernel_rfl) ⟨fun _ => ⟨hc.drewN 1, (Keep.refl g w1).drewN 1⟩, fun h => by rw [Rg.none_yet] at h; cases h⟩ ?_ ?_
  case refine_2 =>
    intro l b' w' hf hall hI hA
    rw [sizeW5] at hall
    obtain ⟨w'', c, h1, h2, rfl⟩ := hI.2 (hall 9 (by omega))
    exact hend b' w'' c hf h1 h2
  case refine_1 =>
    clear hend
    intro i' hi'
    rw [sizeW5] at hi'
    rcases (show i' = 0 ∨ i' = 1 ∨ i' = 2 ∨ i' = 3 ∨ i' = 4 ∨ i' = 5 ∨ i' = 6 ∨ i' = 7 ∨ i' = 8 ∨ i' = 9 by omega) with rfl | rfl | rfl | rfl | rfl | rfl | rfl | rfl | rfl | rfl
    · intro ll bb w' hs hlf hN hf hIl hA
      clear hi'
      have h9 := hN 9 (by kernel_rfl)
      have hI := hIl.1 h9
      have qs := hf.kept (s := 3) (by rw [sizeW5]; kernel_rfl) k3
      obtain ⟨e0, e1, e2, e3, e4, e5, e6, e7, e8, e9⟩ := (hV.keep hI.2 hVg).ten
      exact Rg.op_value (o := ⟨some 24, Op.load 27 (Operand.tmp 3), _, _, _, _⟩) (x := .agg #[.int .i64 p.lim.sl, .int .i64 p.lim.sh, .int .i64 p.lim.hl, .int .i64 p.lim.hh, .int .i64 p.rate, .int .i64 p.asked, .int .i64 p.st, .bool p.door, .int .i64 p.left, .int .i64 p.given]) rfl rfl (by clear hA hN; simp only [execOp]; go_simp) ⟨_, rfl, (fun h => by cases h), rfl, stayW5 (by decide) h9 hI.1 hI.2, fun _ _ h => h⟩
    · intro ll bb w' hs hlf hN hf hIl hA
      clear hi'
      have h9 := hN 9 (by kernel_rfl)
      have hI := hIl.1 h9
      have q0 := hf.kept (s := 0) (by rw [sizeW5]; kernel_rfl) k0
      exact Rg.op_value (o := ⟨some 25, Op.move (Operand.tmp 0), _, _, _, _⟩) rfl rfl rfl ⟨_, rfl, (fun h => by cases h), (by show Act.eval bb _ = _; simp [Act.eval, q0]), stayW5 (by decide) h9 hI.1 hI.2, fun _ _ h => h⟩
    · intro ll bb w' hs hlf hN hf hIl hA
      clear hi'
      have h9 := hN 9 (by kernel_rfl)
      have hI := hIl.1 h9
      have qs := hf.kept (s := 3) (by rw [sizeW5]; kernel_rfl) k3
      exact Rg.op_value (o := ⟨some 26, Op.fieldAddr 27 (Operand.tmp 3) 0, _, _, _, _⟩) (x := .pointer (some ⟨V, 0, none⟩)) rfl rfl (by clear hA hN; simp only [execOp]; go_simp) ⟨_, rfl, (fun h => by cases h), rfl, stayW5 (by decide) h9 hI.1 hI.2, fun _ _ h => h⟩
    · intro ll bb w' hs hlf hN hf hIl hA
      clear hi'
      have h9 := hN 9 (by kernel_rfl)
      have hI := hIl.1 h9
      have q2 : bb.tmps[26]? = some _ := hf.tmp (k := 2) rfl (by rw [ha]; decide) (hA 2 (by kernel_rfl))
      obtain ⟨e0, e1, e2, e3, e4, e5, e6, e7, e8, e9⟩ := (hV.keep hI.2 hVg).ten
      exact Rg.op_value (o := ⟨some 27, Op.load 25 (Operand.tmp 26), _, _, _, _⟩) (x := .agg #[.int .i64 p.lim.sl, .int .i64 p.lim.sh, .int .i64 p.lim.hl, .int .i64 p.lim.hh]) rfl rfl (by clear hA hN; simp only [execOp]; go_simp) ⟨_, rfl, (fun h => by cases h), rfl, stayW5 (by decide) h9 hI.1 hI.2, fun _ _ h => h⟩
    · intro ll bb w' hs hlf hN hf hIl hA
      clear hi'
      have h9 := hN 9 (by kernel_rfl)
      have hI := hIl.1 h9
      have q1 : bb.tmps[25]? = some _ := hf.tmp (k := 1) rfl (by rw [ha]; decide) (hA 1 (by kernel_rfl))
      have q3 : bb.tmps[27]? = some _ := hf.tmp (k := 3) rfl (by rw [ha]; decide) (hA 3 (by kernel_rfl))
      refine Rg.op_call (o := ⟨some 28, Op.call { callee := Callee.value (Operand.func 27), args := #[Operand.tmp 25, Operand.tmp 27], argTypes := _ }, _, _, _, _⟩) rfl rfl (by clear hA hN; simp only [execOp, resolve]; go_simp; rfl) (dact_any g ao cap bs p.lim w' hI.1) ?_
      rintro e w2 ⟨c, rfl, hc2, hk2⟩
      exact ⟨_, rfl, _, rfl, (fun h => by cases h), ⟨c, rfl⟩, stayW5 (by decide) h9 hc2 (hI.2.trans hk2), fun _ _ h => h⟩
    · intro ll bb w' hs hlf hN hf hIl hA
      clear hi'
      have h9 := hN 9 (by kernel_rfl)
      have hI := hIl.1 h9
      have q0 : bb.tmps[24]? = some _ := hf.tmp (k := 0) rfl (by rw [ha]; decide) (hA 0 (by kernel_rfl))
      obtain ⟨c, hv4⟩ := hA 4 (by kernel_rfl)
      have q4 : bb.tmps[28]? = some _ := hf.tmp (k := 4) rfl (by rw [ha]; decide) hv4
      refine Rg.op_call (o := ⟨some 29, Op.call { callee := Callee.value (Operand.func 33), args := #[Operand.tmp 24, Operand.tmp 28], argTypes := _ }, _, _, _, _⟩) rfl rfl (by clear hA hN; simp only [execOp, resolve]; go_simp; first | rfl | exact ⟨rfl, rfl⟩) (sdo_any p c hRt w') ?_
      rintro e w2 ⟨rfl, hb2⟩
      have hk2 : Keep g w' w2 := Keep.of_below hb2
      exact ⟨_, rfl, _, rfl, (fun h => by cases h), ⟨c, rfl⟩, stayW5 (by decide) h9 (hI.1.below (hb2.mono hI.1.1)) (hI.2.trans hk2), fun _ _ h => h⟩
    · intro ll bb w' hs hlf hN hf hIl hA
      clear hi'
      have h9 := hN 9 (by kernel_rfl)
      have hI := hIl.1 h9
      obtain ⟨c, hv5⟩ := hA 5 (by kernel_rfl)
      have q5 : bb.tmps[29]? = some _ := hf.tmp (k := 5) rfl (by rw [ha]; decide) hv5
      exact Rg.op_value (o := ⟨some 23, Op.move (Operand.tmp 29), _, _, _, _⟩) (x := .tuple #[aPm (Ba.step p c).1, .int .i64 (Ba.step p c).2]) rfl rfl (by clear hA hN; simp only [execOp]; go_simp) ⟨_, rfl, (fun h => by cases h), ⟨c, rfl⟩, stayW5 (by decide) h9 hI.1 hI.2, fun _ _ h => h⟩
    · intro ll bb w' hs hlf hN hf hIl hA
      clear hi'
      have h9 := hN 9 (by kernel_rfl)
      have hI := hIl.1 h9
      obtain ⟨c, hv6⟩ := hA 6 (by kernel_rfl)
      have q6 : bb.tmps[23]? = some _ := hf.tmp (k := 6) rfl (by rw [ha]; decide) hv6
      exact Rg.op_value (o := ⟨some 30, Op.extract (Operand.tmp 23) 0, _, _, _, _⟩) (x := aPm (Ba.step p c).1) rfl rfl (by clear hA hN; simp only [execOp]; go_simp) ⟨_, rfl, (fun h => by cases h), ⟨c, rfl⟩, stayW5 (by decide) h9 hI.1 hI.2, fun _ _ h => h⟩
    · intro ll bb w' hs hlf hN hf hIl hA
      clear hi'
      obtain ⟨c, hv6⟩ := hA 6 (by kernel_rfl)
      have q6 : bb.tmps[23]? = some _ := hf.tmp (k := 6) rfl (by rw [ha]; decide) hv6
      exact Rg.op_value (o := ⟨some 31, Op.extract (Operand.tmp 23) 1, _, _, _, _⟩) (x := .int .i64 (Ba.step p c).2) rfl rfl (by clear hA hN; simp only [execOp]; go_simp) ⟨_, rfl, (fun h => by cases h), ⟨_, rfl⟩, (by unfold IW5; rw [Rg.set_ne (by decide)]; exact hIl), fun _ _ h => h⟩
    · intro ll bb w' hs hlf hN hf hIl hA
      clear hi'
      have hI := hIl.1 hlf
      obtain ⟨c, hv⟩ := hA 7 (by kernel_rfl)
      have qv : bb.tmps[30]? = some _ := hf.tmp (k := 7) rfl (by rw [ha]; decide) hv
      have qs := hf.kept (s := 3) (by rw [sizeW5]; kernel_rfl) k3
      have hbx := hV.keep hI.2 hVg
      obtain ⟨e0, e1, e2, e3, e4, e5, e6, e7, e8, e9⟩ := hbx.ten
      obtain ⟨f0, f1, f2, f3, f4, f5, f6, f7, f8, f9⟩ := hbx.cold
      have hE : IW5 w1 g ao cap bs V p (ll.setIfInBounds 9 true) ((((((((((w'.setCell ⟨V, 0, none⟩ (.int .i64 (Ba.step p c).1.lim.sl)).setCell ⟨V, 1, none⟩ (.int .i64 (Ba.step p c).1.lim.sh)).setCell ⟨V, 2, none⟩ (.int .i64 (Ba.step p c).1.lim.hl)).setCell ⟨V, 3, none⟩ (.int .i64 (Ba.step p c).1.lim.hh)).setCell ⟨V, 4, none⟩ (.int .i64 (Ba.step p c).1.rate)).setCell ⟨V, 5, none⟩ (.int .i64 (Ba.step p c).1.asked)).setCell ⟨V, 6, none⟩ (.int .i64 (Ba.step p c).1.st)).setCell ⟨V, 7, none⟩ (.bool (Ba.step p c).1.door)).setCell ⟨V, 8, none⟩ (.int .i64 (Ba.step p c).1.left)).setCell ⟨V, 9, none⟩ (.int .i64 (Ba.step p c).1.given)) := ⟨fun h => (by rw [Rg.set_self hs (by rw [sizeW5]; decide)] at h; cases h), fun _ => ⟨w', c, hI.1, hI.2, rfl⟩⟩
      generalize (Ba.step p c).1 = q at *
      unfold aPm at qv
      clear hA hf hI hv hbx hN hIl
      refine Rg.op_skip (o := ⟨none, Op.store 27 (Operand.tmp 3) (Operand.tmp 30), _, _, _, _⟩) (w' := ((((((((((w'.setCell ⟨V, 0, none⟩ (.int .i64 q.lim.sl)).setCell ⟨V, 1, none⟩ (.int .i64 q.lim.sh)).setCell ⟨V, 2, none⟩ (.int .i64 q.lim.hl)).setCell ⟨V, 3, none⟩ (.int .i64 q.lim.hh)).setCell ⟨V, 4, none⟩ (.int .i64 q.rate)).setCell ⟨V, 5, none⟩ (.int .i64 q.asked)).setCell ⟨V, 6, none⟩ (.int .i64 q.st)).setCell ⟨V, 7, none⟩ (.bool q.door)).setCell ⟨V, 8, none⟩ (.int .i64 q.left)).setCell ⟨V, 9, none⟩ (.int .i64 q.given))) rfl rfl ?_ ⟨undef, (by rw [dW5_9]), (fun _ => trivial), trivial, hE, fun _ _ h => anyW5 h⟩
      clear hE
      simp only [execOp]
      go_simp

theorem put_noneW (a : Act) (v : Value) : a.put none v = a := rfl
theorem dW5_0 : Rg.dstAt (Rg.opsOf Try.f26 5) 0 = some 24 := by kernel_rfl
theorem dW5_1 : Rg.dstAt (Rg.opsOf Try.f26 5) 1 = some 25 := by kernel_rfl
theorem dW5_2 : Rg.dstAt (Rg.opsOf Try.f26 5) 2 = some 26 := by kernel_rfl
theorem dW5_3 : Rg.dstAt (Rg.opsOf Try.f26 5) 3 = some 27 := by kernel_rfl
theorem dW5_4 : Rg.dstAt (Rg.opsOf Try.f26 5) 4 = some 28 := by kernel_rfl
theorem dW5_5 : Rg.dstAt (Rg.opsOf Try.f26 5) 5 = some 29 := by kernel_rfl
theorem dW5_6 : Rg.dstAt (Rg.opsOf Try.f26 5) 6 = some 23 := by kernel_rfl
theorem dW5_7 : Rg.dstAt (Rg.opsOf Try.f26 5) 7 = some 30 := by kernel_rfl
theorem dW5_8 : Rg.dstAt (Rg.opsOf Try.f26 5) 8 = some 31 := by kernel_rfl
theorem layW5 {a b : Act} (hf : Rg.Fr (Rg.opsOf Try.f26 5) a b) : b = (((((((((a.put (some 24) (Rg.out (Rg.opsOf Try.f26 5) b 0)).put (some 25) (Rg.out (Rg.opsOf Try.f26 5) b 1)).put (some 26) (Rg.out (Rg.opsOf Try.f26 5) b 2)).put (some 27) (Rg.out (Rg.opsOf Try.f26 5) b 3)).put (some 28) (Rg.out (Rg.opsOf Try.f26 5) b 4)).put (some 29) (Rg.out (Rg.opsOf Try.f26 5) b 5)).put (some 23) (Rg.out (Rg.opsOf Try.f26 5) b 6)).put (some 30) (Rg.out (Rg.opsOf Try.f26 5) b 7)).put (some 31) (Rg.out (Rg.opsOf Try.f26 5) b 8)) := by
  have h := hf.chain
  rw [sizeW5, show List.range 10 = [0, 1, 2, 3, 4, 5, 6, 7, 8, 9] from by decide] at h
  simp only [List.foldl_cons, List.foldl_nil, dW5_0, dW5_1, dW5_2, dW5_3, dW5_4, dW5_5, dW5_6, dW5_7, dW5_8, dW5_9, put_noneW] at h
  exact h

theorem DX.fill {w0 W : World} {g cap R V : Nat} {ao : Option Addr} {bs : List Int} {rs : Array Value} {v0 v1 v2 v3 v4 v5 v6 v7 v8 v9 : Value} {t : TypeId} (h : DX w0 W g ao cap bs R V rs #[v0, v1, v2, v3, v4, v5, v6, v7, v8, v9] t) (q : Pm) :
    DX w0 ((((((((((W.setCell ⟨V, 0, none⟩ (.int .i64 q.lim.sl)).setCell ⟨V, 1, none⟩ (.int .i64 q.lim.sh)).setCell ⟨V, 2, none⟩ (.int .i64 q.lim.hl)).setCell ⟨V, 3, none⟩ (.int .i64 q.lim.hh)).setCell ⟨V, 4, none⟩ (.int .i64 q.rate)).setCell ⟨V, 5, none⟩ (.int .i64 q.asked)).setCell ⟨V, 6, none⟩ (.int .i64 q.st)).setCell ⟨V, 7, none⟩ (.bool q.door)).setCell ⟨V, 8, none⟩ (.int .i64 q.left)).setCell ⟨V, 9, none⟩ (.int .i64 q.given)) g ao cap bs R V rs #[.int .i64 q.lim.sl, .int .i64 q.lim.sh, .int .i64 q.lim.hl, .int .i64 q.lim.hh, .int .i64 q.rate, .int .i64 q.asked, .int .i64 q.st, .bool q.door, .int .i64 q.left, .int .i64 q.given] t := by
  have h0 := h.put 0 (.int .i64 q.lim.sl) (vs' := #[.int .i64 q.lim.sl, v1, v2, v3, v4, v5, v6, v7, v8, v9]) (by simp)
  have h1 := h0.put 1 (.int .i64 q.lim.sh) (vs' := #[.int .i64 q.lim.sl, .int .i64 q.lim.sh, v2, v3, v4, v5, v6, v7, v8, v9]) (by simp)
  have h2 := h1.put 2 (.int .i64 q.lim.hl) (vs' := #[.int .i64 q.lim.sl, .int .i64 q.lim.sh, .int .i64 q.lim.hl, v3, v4, v5, v6, v7, v8, v9]) (by simp)
  have h3 := h2.put 3 (.int .i64 q.lim.hh) (vs' := #[.int .i64 q.lim.sl, .int .i64 q.lim.sh, .int .i64 q.lim.hl, .int .i64 q.lim.hh, v4, v5, v6, v7, v8, v9]) (by simp)
  have h4 := h3.put 4 (.int .i64 q.rate) (vs' := #[.int .i64 q.lim.sl, .int .i64 q.lim.sh, .int .i64 q.lim.hl, .int .i64 q.lim.hh, .int .i64 q.rate, v5, v6, v7, v8, v9]) (by simp)
  have h5 := h4.put 5 (.int .i64 q.asked) (vs' := #[.int .i64 q.lim.sl, .int .i64 q.lim.sh, .int .i64 q.lim.hl, .int .i64 q.lim.hh, .int .i64 q.rate, .int .i64 q.asked, v6, v7, v8, v9]) (by simp)
  have h6 := h5.put 6 (.int .i64 q.st) (vs' := #[.int .i64 q.lim.sl, .int .i64 q.lim.sh, .int .i64 q.lim.hl, .int .i64 q.lim.hh, .int .i64 q.rate, .int .i64 q.asked, .int .i64 q.st, v7, v8, v9]) (by simp)
  have h7 := h6.put 7 (.bool q.door) (vs' := #[.int .i64 q.lim.sl, .int .i64 q.lim.sh, .int .i64 q.lim.hl, .int .i64 q.lim.hh, .int .i64 q.rate, .int .i64 q.asked, .int .i64 q.st, .bool q.door, v8, v9]) (by simp)
  have h8 := h7.put 8 (.int .i64 q.left) (vs' := #[.int .i64 q.lim.sl, .int .i64 q.lim.sh, .int .i64 q.lim.hl, .int .i64 q.lim.hh, .int .i64 q.rate, .int .i64 q.asked, .int .i64 q.st, .bool q.door, .int .i64 q.left, v9]) (by simp)
  have h9 := h8.put 9 (.int .i64 q.given) (vs' := #[.int .i64 q.lim.sl, .int .i64 q.lim.sh, .int .i64 q.lim.hl, .int .i64 q.lim.hh, .int .i64 q.rate, .int .i64 q.asked, .int .i64 q.st, .bool q.door, .int .i64 q.left, .int .i64 q.given]) (by simp)
  exact h9
theorem newT2 {l : Lm} {lf : Int} (h : (Ba.new l lf).2 = true) : Right (Ba.new l lf).1 := by
  unfold Ba.new at *
  split at h
  · rename_i hp
    rw [if_pos hp]
    exact right_iff.1 hp
  · cases h

end Go.Proofs.Ytamghmnibfbgaaa
