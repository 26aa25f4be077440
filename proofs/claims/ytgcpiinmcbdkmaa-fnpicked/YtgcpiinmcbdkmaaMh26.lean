/-
  Merged: Q27.
-/
import Derived.Test.YtgcpiinmcbdkmaaMh24
import Derived.Test.YtgcpiinmcbdkmaaMh4
namespace Go.Proofs.Ytgcpiinmcbdkmaa
open Go.RowKit Va Bl
set_option linter.all false
def FOn5 (B C : Nat) (a9 : Da) (n : Nd) (x : Ut) (tv tn z9 : Value) (r9 : Int) (i9 : Nat) (v : Value) (w : World) : Prop :=
  match i9 with
  | 0 => v = .iface 153 (.agg #[.int .i64 x.id, .int .i64 x.grp, tv, .int .i64 x.til, .int .i64 x.st, .int .i64 x.fr])
  | 1 => v = .pointer (some ⟨C, 0, none⟩)
  | 2 => v = .int .i64 n.p
  | 3 => v = z9
  | 4 => v = .agg #[.int .i64 n.p, .int .i64 n.g, tn]
  | 5 => v = .iface 153 (.agg #[.int .i64 x.id, .int .i64 x.grp, tv, .int .i64 x.til, .int .i64 x.st, .int .i64 x.fr])
  | 6 => v = .agg #[.int .i64 x.id, .int .i64 x.grp, tv, .int .i64 x.til, .int .i64 x.st, .int .i64 x.fr]
  | 7 => v = .pointer (some ⟨B, 2, none⟩)
  | 8 => v = .int .i64 a9.t
  | 9 => v = .int .i64 r9
  | 10 => v = z9
  | 11 => v = .int .i64 r9
  | _ => True
theorem sizeOn5 : (Rg.opsOf Try.f101 5).size = 12 := by kernel_rfl
set_option maxRecDepth 20000 in
set_option maxHeartbeats 8000000 in
theorem regOn5 {Q : Exit → Act → World → Prop} {a : Act} {w9 : World} {B C : Nat} {a9 : Da} {n : Nd} {x : Ut} {tv tn z9 : Value} {r9 : Int} (ha : a.tmps.size = 85)
    (k1 : a.tmps[1]? = some (.iface 153 (.agg #[.int .i64 x.id, .int .i64 x.grp, tv, .int .i64 x.til, .int .i64 x.st, .int .i64 x.fr]))) (k3 : a.tmps[3]? = some (.pointer (some ⟨B, 0, none⟩))) (k5 : a.tmps[5]? = some (.pointer (some ⟨C, 0, none⟩))) (k8 : a.tmps[8]? = some (.iface 153 (.agg #[.int .i64 x.id, .int .i64 x.grp, tv, .int .i64 x.til, .int .i64 x.st, .int .i64 x.fr]))) (hD : PB w9 B #[.int .i64 a9.k, .int .i64 a9.id, .int .i64 a9.t] 35)(hE : PB w9 C #[.int .i64 n.p, .int .i64 n.g, tn] 27)(hK : ∀ W, Below w9.heap.size w9 W → Calls Try.prog 196 #[.agg #[.int .i64 x.id, .int .i64 x.grp, tv, .int .i64 x.til, .int .i64 x.st, .int .i64 x.fr], .int .i64 n.p] W fun e W' => e = .returned (z9) ∧ Below W.heap.size W W') (hT : ∀ W, Below w9.heap.size w9 W → Calls Try.prog 195 #[.agg #[.int .i64 x.id, .int .i64 x.grp, tv, .int .i64 x.til, .int .i64 x.st, .int .i64 x.fr]] W fun e W' => e = .returned (.agg #[.int .i64 x.id, .int .i64 x.grp, tv, .int .i64 x.til, .int .i64 x.st, .int .i64 x.fr]) ∧ Below W.heap.size W W') (hR : ∀ W, Below w9.heap.size w9 W → Calls Try.prog 84 #[.agg #[.int .i64 n.p, .int .i64 n.g, tn], .agg #[.int .i64 x.id, .int .i64 x.grp, tv, .int .i64 x.til, .int .i64 x.st, .int .i64 x.fr], .int .i64 a9.t] W fun e W' => e = .returned (.int .i64 r9) ∧ Below W.heap.size W W')
    (hend : ∀ b' w', Rg.Fr (Rg.opsOf Try.f101 5) a b' → Below w9.heap.size w9 w' → Rg.out (Rg.opsOf Try.f101 5) b' 10 = z9 → Rg.out (Rg.opsOf Try.f101 5) b' 11 = .int .i64 r9 → Q .normal b' w') :
    (Code.region 5 (Rg.opsOf Try.f101 5) true).wp Try.prog Q a w9 := by
  refine Rg.region_set3 (by kernel_rfl) (fun _ w' => Below w9.heap.size w9 w') (FOn5 B C a9 n x tv tn z9 r9) (by rw [ha, sizeOn5]; kernel_rfl) (st_drew (Below.refl _ _)) ?_ ?_
  case refine_2 =>
    intro l b' w' hf hall hI hA
    rw [sizeOn5] at hA
    exact hend b' w' hf hI (hA 10 (by decide)) (hA 11 (by decide))
  case refine_1 =>
    clear hend
    have HS : ∀ {w w' : World}, Below w.heap.size w w' → ∀ k9 y9, FOn5 B C a9 n x tv tn z9 r9 k9 y9 w → FOn5 B C a9 n x tv tn z9 r9 k9 y9 w' := fun hb k9 y9 h => by
      unfold FOn5 at *
      split at h <;> exact h
    intro i' hi'
    rw [sizeOn5] at hi'
    rcases (show i' = 0 ∨ i' = 1 ∨ i' = 2 ∨ i' = 3 ∨ i' = 4 ∨ i' = 5 ∨ i' = 6 ∨ i' = 7 ∨ i' = 8 ∨ i' = 9 ∨ i' = 10 ∨ i' = 11 by omega) with rfl | rfl | rfl | rfl | rfl | rfl | rfl | rfl | rfl | rfl | rfl | rfl
    · intro ll bb w' hs hlf hN hO hf hI hA
      clear hi'
      have q0 := hf.kept (s := 8) (by rw [sizeOn5]; kernel_rfl) k8
      exact Rg.op_value (o := ⟨some 26, Op.move (Operand.tmp 8), _, _, _, _⟩) (x := .iface 153 (.agg #[.int .i64 x.id, .int .i64 x.grp, tv, .int .i64 x.til, .int .i64 x.st, .int .i64 x.fr])) rfl rfl (by clear hA HS hN hO hD hE hK hT hR; simp only [execOp]; go_simp) ⟨_, rfl, (fun h => by cases h), rfl, hI, fun _ _ _ _ h => h⟩
    · intro ll bb w' hs hlf hN hO hf hI hA
      clear hi'
      have q5 := hf.kept (s := 5) (by rw [sizeOn5]; kernel_rfl) k5
      exact Rg.op_value (o := ⟨some 27, Op.fieldAddr 27 (Operand.tmp 5) 0, _, _, _, _⟩) (x := .pointer (some ⟨C, 0, none⟩)) rfl rfl (by clear hA HS hN hO hD hE hK hT hR; simp only [execOp]; go_simp) ⟨_, rfl, (fun h => by cases h), rfl, hI, fun _ _ _ _ h => h⟩
    · intro ll bb w' hs hlf hN hO hf hI hA
      clear hi'
      have q27 : bb.tmps[27]? = some _ := hf.tmp (k := 1) rfl (by rw [ha]; decide) (hA 1 (by kernel_rfl))
      obtain ⟨d0, d1, d2⟩ := (hE.below hI).three
      exact Rg.op_value (o := ⟨some 28, Op.load 2 (Operand.tmp 27), _, _, _, _⟩) (x := .int .i64 n.p) rfl rfl (by clear hA HS hN hO hD hE hK hT hR; simp only [execOp]; go_simp) ⟨_, rfl, (fun h => by cases h), rfl, hI, fun _ _ _ _ h => h⟩
    · intro ll bb w' hs hlf hN hO hf hI hA
      clear hi'
      have q26 : bb.tmps[26]? = some _ := hf.tmp (k := 0) rfl (by rw [ha]; decide) (hA 0 (by kernel_rfl))
      have q28 : bb.tmps[28]? = some _ := hf.tmp (k := 2) rfl (by rw [ha]; decide) (hA 2 (by kernel_rfl))
      have hm := m_kept
      refine Rg.op_call (o := ⟨some 29, Op.call { callee := Callee.invoke (Operand.tmp 26) "loop.example/g00060/impl.keptFor", args := #[(Operand.tmp 28)], argTypes := _ }, _, _, _, _⟩) rfl rfl (by clear hA HS hN hO hD hE hK hT hR; simp only [execOp, resolve]; go_simp) (hK w' hI) ?_
      rintro e w2 ⟨rfl, hb2⟩
      exact ⟨_, rfl, _, rfl, (fun h => by cases h), rfl, onto hI hb2, fun k9 y9 _ _ h => HS hb2 k9 y9 h⟩
    · intro ll bb w' hs hlf hN hO hf hI hA
      clear hi'
      have q5 := hf.kept (s := 5) (by rw [sizeOn5]; kernel_rfl) k5
      obtain ⟨d0, d1, d2⟩ := (hE.below hI).three
      exact Rg.op_value (o := ⟨some 30, Op.load 27 (Operand.tmp 5), _, _, _, _⟩) (x := .agg #[.int .i64 n.p, .int .i64 n.g, tn]) rfl rfl (by clear hA HS hN hO hD hE hK hT hR; simp only [execOp]; go_simp) ⟨_, rfl, (fun h => by cases h), rfl, hI, fun _ _ _ _ h => h⟩
    · intro ll bb w' hs hlf hN hO hf hI hA
      clear hi'
      have q0 := hf.kept (s := 1) (by rw [sizeOn5]; kernel_rfl) k1
      exact Rg.op_value (o := ⟨some 31, Op.move (Operand.tmp 1), _, _, _, _⟩) (x := .iface 153 (.agg #[.int .i64 x.id, .int .i64 x.grp, tv, .int .i64 x.til, .int .i64 x.st, .int .i64 x.fr])) rfl rfl (by clear hA HS hN hO hD hE hK hT hR; simp only [execOp]; go_simp) ⟨_, rfl, (fun h => by cases h), rfl, hI, fun _ _ _ _ h => h⟩
    · intro ll bb w' hs hlf hN hO hf hI hA
      clear hi'
      have q31 : bb.tmps[31]? = some _ := hf.tmp (k := 5) rfl (by rw [ha]; decide) (hA 5 (by kernel_rfl))
      have hm := m_told1
      refine Rg.op_call (o := ⟨some 32, Op.call { callee := Callee.invoke (Operand.tmp 31) "loop.example/g00060/impl.told", args := #[], argTypes := _ }, _, _, _, _⟩) rfl rfl (by clear hA HS hN hO hD hE hK hT hR; simp only [execOp, resolve]; go_simp) (hT w' hI) ?_
      rintro e w2 ⟨rfl, hb2⟩
      exact ⟨_, rfl, _, rfl, (fun h => by cases h), rfl, onto hI hb2, fun k9 y9 _ _ h => HS hb2 k9 y9 h⟩
    · intro ll bb w' hs hlf hN hO hf hI hA
      clear hi'
      have q3 := hf.kept (s := 3) (by rw [sizeOn5]; kernel_rfl) k3
      exact Rg.op_value (o := ⟨some 33, Op.fieldAddr 35 (Operand.tmp 3) 2, _, _, _, _⟩) (x := .pointer (some ⟨B, 2, none⟩)) rfl rfl (by clear hA HS hN hO hD hE hK hT hR; simp only [execOp]; go_simp) ⟨_, rfl, (fun h => by cases h), rfl, hI, fun _ _ _ _ h => h⟩
    · intro ll bb w' hs hlf hN hO hf hI hA
      clear hi'
      have q33 : bb.tmps[33]? = some _ := hf.tmp (k := 7) rfl (by rw [ha]; decide) (hA 7 (by kernel_rfl))
      obtain ⟨b0, b1, b2⟩ := (hD.below hI).three
      exact Rg.op_value (o := ⟨some 34, Op.load 2 (Operand.tmp 33), _, _, _, _⟩) (x := .int .i64 a9.t) rfl rfl (by clear hA HS hN hO hD hE hK hT hR; simp only [execOp]; go_simp) ⟨_, rfl, (fun h => by cases h), rfl, hI, fun _ _ _ _ h => h⟩
    · intro ll bb w' hs hlf hN hO hf hI hA
      clear hi'
      have q30 : bb.tmps[30]? = some _ := hf.tmp (k := 4) rfl (by rw [ha]; decide) (hA 4 (by kernel_rfl))
      have q32 : bb.tmps[32]? = some _ := hf.tmp (k := 6) rfl (by rw [ha]; decide) (hA 6 (by kernel_rfl))
      have q34 : bb.tmps[34]? = some _ := hf.tmp (k := 8) rfl (by rw [ha]; decide) (hA 8 (by kernel_rfl))
      refine Rg.op_call (o := ⟨some 35, Op.call { callee := Callee.value (Operand.func 84), args := #[(Operand.tmp 30), (Operand.tmp 32), (Operand.tmp 34)], argTypes := _ }, _, _, _, _⟩) rfl rfl (by clear hA HS hN hO hD hE hK hT hR; simp only [execOp, resolve]; go_simp) (hR w' hI) ?_
      rintro e w2 ⟨rfl, hb2⟩
      exact ⟨_, rfl, _, rfl, (fun h => by cases h), rfl, onto hI hb2, fun k9 y9 _ _ h => HS hb2 k9 y9 h⟩
    · intro ll bb w' hs hlf hN hO hf hI hA
      clear hi'
      have q29 : bb.tmps[29]? = some _ := hf.tmp (k := 3) rfl (by rw [ha]; decide) (hA 3 (by kernel_rfl))
      exact Rg.op_value (o := ⟨some 6, Op.assign (Operand.tmp 29), _, _, _, _⟩) (x := z9) rfl rfl (by clear hA HS hN hO hD hE hK hT hR; simp only [execOp]; go_simp) ⟨_, rfl, (fun h => by cases h), rfl, hI, fun _ _ _ _ h => h⟩
    · intro ll bb w' hs hlf hN hO hf hI hA
      clear hi'
      have q35 : bb.tmps[35]? = some _ := hf.tmp (k := 9) rfl (by rw [ha]; decide) (hA 9 (by kernel_rfl))
      exact Rg.op_value (o := ⟨some 7, Op.assign (Operand.tmp 35), _, _, _, _⟩) (x := .int .i64 r9) rfl rfl (by clear hA HS hN hO hD hE hK hT hR; simp only [execOp]; go_simp) ⟨_, rfl, (fun h => by cases h), rfl, hI, fun _ _ _ _ h => h⟩
theorem dOn5_0 : Rg.dstAt (Rg.opsOf Try.f101 5) 0 = some 26 := by kernel_rfl
theorem dOn5_1 : Rg.dstAt (Rg.opsOf Try.f101 5) 1 = some 27 := by kernel_rfl
theorem dOn5_2 : Rg.dstAt (Rg.opsOf Try.f101 5) 2 = some 28 := by kernel_rfl
theorem dOn5_3 : Rg.dstAt (Rg.opsOf Try.f101 5) 3 = some 29 := by kernel_rfl
theorem dOn5_4 : Rg.dstAt (Rg.opsOf Try.f101 5) 4 = some 30 := by kernel_rfl
theorem dOn5_5 : Rg.dstAt (Rg.opsOf Try.f101 5) 5 = some 31 := by kernel_rfl
theorem dOn5_6 : Rg.dstAt (Rg.opsOf Try.f101 5) 6 = some 32 := by kernel_rfl
theorem dOn5_7 : Rg.dstAt (Rg.opsOf Try.f101 5) 7 = some 33 := by kernel_rfl
theorem dOn5_8 : Rg.dstAt (Rg.opsOf Try.f101 5) 8 = some 34 := by kernel_rfl
theorem dOn5_9 : Rg.dstAt (Rg.opsOf Try.f101 5) 9 = some 35 := by kernel_rfl
theorem dOn5_10 : Rg.dstAt (Rg.opsOf Try.f101 5) 10 = some 6 := by kernel_rfl
theorem dOn5_11 : Rg.dstAt (Rg.opsOf Try.f101 5) 11 = some 7 := by kernel_rfl
theorem layOn5 {a b : Act} (hf : Rg.Fr (Rg.opsOf Try.f101 5) a b) : b = ((((((((((((a.put (some 26) (Rg.out (Rg.opsOf Try.f101 5) b 0)).put (some 27) (Rg.out (Rg.opsOf Try.f101 5) b 1)).put (some 28) (Rg.out (Rg.opsOf Try.f101 5) b 2)).put (some 29) (Rg.out (Rg.opsOf Try.f101 5) b 3)).put (some 30) (Rg.out (Rg.opsOf Try.f101 5) b 4)).put (some 31) (Rg.out (Rg.opsOf Try.f101 5) b 5)).put (some 32) (Rg.out (Rg.opsOf Try.f101 5) b 6)).put (some 33) (Rg.out (Rg.opsOf Try.f101 5) b 7)).put (some 34) (Rg.out (Rg.opsOf Try.f101 5) b 8)).put (some 35) (Rg.out (Rg.opsOf Try.f101 5) b 9)).put (some 6) (Rg.out (Rg.opsOf Try.f101 5) b 10)).put (some 7) (Rg.out (Rg.opsOf Try.f101 5) b 11)) := by
  have h := hf.chain
  rw [sizeOn5, show List.range 12 = [0, 1, 2, 3, 4, 5, 6, 7, 8, 9, 10, 11] from by decide] at h
  simp only [List.foldl_cons, List.foldl_nil, dOn5_0, dOn5_1, dOn5_2, dOn5_3, dOn5_4, dOn5_5, dOn5_6, dOn5_7, dOn5_8, dOn5_9, dOn5_10, dOn5_11] at h
  exact h
def FOn13 (B C : Nat) (a9 : Da) (n : Nd) (x : Ut) (tv tn z9 : Value) (r9 : Int) (i9 : Nat) (v : Value) (w : World) : Prop :=
  match i9 with
  | 0 => v = .iface 154 (.agg #[.int .i64 x.id, .int .i64 x.grp, tv, .int .i64 x.til, .int .i64 x.st, .int .i64 x.fr])
  | 1 => v = z9
  | 2 => v = .agg #[.int .i64 n.p, .int .i64 n.g, tn]
  | 3 => v = .iface 154 (.agg #[.int .i64 x.id, .int .i64 x.grp, tv, .int .i64 x.til, .int .i64 x.st, .int .i64 x.fr])
  | 4 => v = .agg #[.int .i64 x.id, .int .i64 x.grp, tv, .int .i64 x.til, .int .i64 x.st, .int .i64 x.fr]
  | 5 => v = .pointer (some ⟨B, 2, none⟩)
  | 6 => v = .int .i64 a9.t
  | 7 => v = .int .i64 r9
  | 8 => v = z9
  | 9 => v = .int .i64 r9
  | _ => True
theorem sizeOn13 : (Rg.opsOf Try.f101 13).size = 10 := by kernel_rfl
set_option maxRecDepth 20000 in
set_option maxHeartbeats 8000000 in
theorem regOn13 {Q : Exit → Act → World → Prop} {a : Act} {w9 : World} {B C : Nat} {a9 : Da} {n : Nd} {x : Ut} {tv tn z9 : Value} {r9 : Int} (ha : a.tmps.size = 85)
    (k1 : a.tmps[1]? = some (.iface 154 (.agg #[.int .i64 x.id, .int .i64 x.grp, tv, .int .i64 x.til, .int .i64 x.st, .int .i64 x.fr]))) (k3 : a.tmps[3]? = some (.pointer (some ⟨B, 0, none⟩))) (k5 : a.tmps[5]? = some (.pointer (some ⟨C, 0, none⟩))) (k12 : a.tmps[12]? = some (.iface 154 (.agg #[.int .i64 x.id, .int .i64 x.grp, tv, .int .i64 x.til, .int .i64 x.st, .int .i64 x.fr]))) (hD : PB w9 B #[.int .i64 a9.k, .int .i64 a9.id, .int .i64 a9.t] 35)(hE : PB w9 C #[.int .i64 n.p, .int .i64 n.g, tn] 27)(hK : ∀ W, Below w9.heap.size w9 W → Calls Try.prog 200 #[.agg #[.int .i64 x.id, .int .i64 x.grp, tv, .int .i64 x.til, .int .i64 x.st, .int .i64 x.fr]] W fun e W' => e = .returned (z9) ∧ Below W.heap.size W W') (hT : ∀ W, Below w9.heap.size w9 W → Calls Try.prog 195 #[.agg #[.int .i64 x.id, .int .i64 x.grp, tv, .int .i64 x.til, .int .i64 x.st, .int .i64 x.fr]] W fun e W' => e = .returned (.agg #[.int .i64 x.id, .int .i64 x.grp, tv, .int .i64 x.til, .int .i64 x.st, .int .i64 x.fr]) ∧ Below W.heap.size W W') (hR : ∀ W, Below w9.heap.size w9 W → Calls Try.prog 84 #[.agg #[.int .i64 n.p, .int .i64 n.g, tn], .agg #[.int .i64 x.id, .int .i64 x.grp, tv, .int .i64 x.til, .int .i64 x.st, .int .i64 x.fr], .int .i64 a9.t] W fun e W' => e = .returned (.int .i64 r9) ∧ Below W.heap.size W W')
    (hend : ∀ b' w', Rg.Fr (Rg.opsOf Try.f101 13) a b' → Below w9.heap.size w9 w' → Rg.out (Rg.opsOf Try.f101 13) b' 8 = z9 → Rg.out (Rg.opsOf Try.f101 13) b' 9 = .int .i64 r9 → Q .normal b' w') :
    (Code.region 13 (Rg.opsOf Try.f101 13) true).wp Try.prog Q a w9 := by
  refine Rg.region_set3 (by kernel_rfl) (fun _ w' => Below w9.heap.size w9 w') (FOn13 B C a9 n x tv tn z9 r9) (by rw [ha, sizeOn13]; kernel_rfl) (st_drew (Below.refl _ _)) ?_ ?_
  case refine_2 =>
    intro l b' w' hf hall hI hA
    rw [sizeOn13] at hA
    exact hend b' w' hf hI (hA 8 (by decide)) (hA 9 (by decide))
  case refine_1 =>
    clear hend
    have HS : ∀ {w w' : World}, Below w.heap.size w w' → ∀ k9 y9, FOn13 B C a9 n x tv tn z9 r9 k9 y9 w → FOn13 B C a9 n x tv tn z9 r9 k9 y9 w' := fun hb k9 y9 h => by
      unfold FOn13 at *
      split at h <;> exact h
    intro i' hi'
    rw [sizeOn13] at hi'
    rcases (show i' = 0 ∨ i' = 1 ∨ i' = 2 ∨ i' = 3 ∨ i' = 4 ∨ i' = 5 ∨ i' = 6 ∨ i' = 7 ∨ i' = 8 ∨ i' = 9 by omega) with rfl | rfl | rfl | rfl | rfl | rfl | rfl | rfl | rfl | rfl
    · intro ll bb w' hs hlf hN hO hf hI hA
      clear hi'
      have q0 := hf.kept (s := 12) (by rw [sizeOn13]; kernel_rfl) k12
      exact Rg.op_value (o := ⟨some 66, Op.move (Operand.tmp 12), _, _, _, _⟩) (x := .iface 154 (.agg #[.int .i64 x.id, .int .i64 x.grp, tv, .int .i64 x.til, .int .i64 x.st, .int .i64 x.fr])) rfl rfl (by clear hA HS hN hO hD hE hK hT hR; simp only [execOp]; go_simp) ⟨_, rfl, (fun h => by cases h), rfl, hI, fun _ _ _ _ h => h⟩
    · intro ll bb w' hs hlf hN hO hf hI hA
      clear hi'
      have q66 : bb.tmps[66]? = some _ := hf.tmp (k := 0) rfl (by rw [ha]; decide) (hA 0 (by kernel_rfl))
      have hm := m_givn
      refine Rg.op_call (o := ⟨some 67, Op.call { callee := Callee.invoke (Operand.tmp 66) "loop.example/g00060/impl.given", args := #[], argTypes := _ }, _, _, _, _⟩) rfl rfl (by clear hA HS hN hO hD hE hK hT hR; simp only [execOp, resolve]; go_simp) (hK w' hI) ?_
      rintro e w2 ⟨rfl, hb2⟩
      exact ⟨_, rfl, _, rfl, (fun h => by cases h), rfl, onto hI hb2, fun k9 y9 _ _ h => HS hb2 k9 y9 h⟩
    · intro ll bb w' hs hlf hN hO hf hI hA
      clear hi'
      have q5 := hf.kept (s := 5) (by rw [sizeOn13]; kernel_rfl) k5
      obtain ⟨d0, d1, d2⟩ := (hE.below hI).three
      exact Rg.op_value (o := ⟨some 68, Op.load 27 (Operand.tmp 5), _, _, _, _⟩) (x := .agg #[.int .i64 n.p, .int .i64 n.g, tn]) rfl rfl (by clear hA HS hN hO hD hE hK hT hR; simp only [execOp]; go_simp) ⟨_, rfl, (fun h => by cases h), rfl, hI, fun _ _ _ _ h => h⟩
    · intro ll bb w' hs hlf hN hO hf hI hA
      clear hi'
      have q0 := hf.kept (s := 1) (by rw [sizeOn13]; kernel_rfl) k1
      exact Rg.op_value (o := ⟨some 69, Op.move (Operand.tmp 1), _, _, _, _⟩) (x := .iface 154 (.agg #[.int .i64 x.id, .int .i64 x.grp, tv, .int .i64 x.til, .int .i64 x.st, .int .i64 x.fr])) rfl rfl (by clear hA HS hN hO hD hE hK hT hR; simp only [execOp]; go_simp) ⟨_, rfl, (fun h => by cases h), rfl, hI, fun _ _ _ _ h => h⟩
    · intro ll bb w' hs hlf hN hO hf hI hA
      clear hi'
      have q69 : bb.tmps[69]? = some _ := hf.tmp (k := 3) rfl (by rw [ha]; decide) (hA 3 (by kernel_rfl))
      have hm := m_told2
      refine Rg.op_call (o := ⟨some 70, Op.call { callee := Callee.invoke (Operand.tmp 69) "loop.example/g00060/impl.told", args := #[], argTypes := _ }, _, _, _, _⟩) rfl rfl (by clear hA HS hN hO hD hE hK hT hR; simp only [execOp, resolve]; go_simp) (hT w' hI) ?_
      rintro e w2 ⟨rfl, hb2⟩
      exact ⟨_, rfl, _, rfl, (fun h => by cases h), rfl, onto hI hb2, fun k9 y9 _ _ h => HS hb2 k9 y9 h⟩
    · intro ll bb w' hs hlf hN hO hf hI hA
      clear hi'
      have q3 := hf.kept (s := 3) (by rw [sizeOn13]; kernel_rfl) k3
      exact Rg.op_value (o := ⟨some 71, Op.fieldAddr 35 (Operand.tmp 3) 2, _, _, _, _⟩) (x := .pointer (some ⟨B, 2, none⟩)) rfl rfl (by clear hA HS hN hO hD hE hK hT hR; simp only [execOp]; go_simp) ⟨_, rfl, (fun h => by cases h), rfl, hI, fun _ _ _ _ h => h⟩
    · intro ll bb w' hs hlf hN hO hf hI hA
      clear hi'
      have q71 : bb.tmps[71]? = some _ := hf.tmp (k := 5) rfl (by rw [ha]; decide) (hA 5 (by kernel_rfl))
      obtain ⟨b0, b1, b2⟩ := (hD.below hI).three
      exact Rg.op_value (o := ⟨some 72, Op.load 2 (Operand.tmp 71), _, _, _, _⟩) (x := .int .i64 a9.t) rfl rfl (by clear hA HS hN hO hD hE hK hT hR; simp only [execOp]; go_simp) ⟨_, rfl, (fun h => by cases h), rfl, hI, fun _ _ _ _ h => h⟩
    · intro ll bb w' hs hlf hN hO hf hI hA
      clear hi'
      have q68 : bb.tmps[68]? = some _ := hf.tmp (k := 2) rfl (by rw [ha]; decide) (hA 2 (by kernel_rfl))
      have q70 : bb.tmps[70]? = some _ := hf.tmp (k := 4) rfl (by rw [ha]; decide) (hA 4 (by kernel_rfl))
      have q72 : bb.tmps[72]? = some _ := hf.tmp (k := 6) rfl (by rw [ha]; decide) (hA 6 (by kernel_rfl))
      refine Rg.op_call (o := ⟨some 73, Op.call { callee := Callee.value (Operand.func 84), args := #[(Operand.tmp 68), (Operand.tmp 70), (Operand.tmp 72)], argTypes := _ }, _, _, _, _⟩) rfl rfl (by clear hA HS hN hO hD hE hK hT hR; simp only [execOp, resolve]; go_simp) (hR w' hI) ?_
      rintro e w2 ⟨rfl, hb2⟩
      exact ⟨_, rfl, _, rfl, (fun h => by cases h), rfl, onto hI hb2, fun k9 y9 _ _ h => HS hb2 k9 y9 h⟩
    · intro ll bb w' hs hlf hN hO hf hI hA
      clear hi'
      have q67 : bb.tmps[67]? = some _ := hf.tmp (k := 1) rfl (by rw [ha]; decide) (hA 1 (by kernel_rfl))
      exact Rg.op_value (o := ⟨some 6, Op.assign (Operand.tmp 67), _, _, _, _⟩) (x := z9) rfl rfl (by clear hA HS hN hO hD hE hK hT hR; simp only [execOp]; go_simp) ⟨_, rfl, (fun h => by cases h), rfl, hI, fun _ _ _ _ h => h⟩
    · intro ll bb w' hs hlf hN hO hf hI hA
      clear hi'
      have q73 : bb.tmps[73]? = some _ := hf.tmp (k := 7) rfl (by rw [ha]; decide) (hA 7 (by kernel_rfl))
      exact Rg.op_value (o := ⟨some 7, Op.assign (Operand.tmp 73), _, _, _, _⟩) (x := .int .i64 r9) rfl rfl (by clear hA HS hN hO hD hE hK hT hR; simp only [execOp]; go_simp) ⟨_, rfl, (fun h => by cases h), rfl, hI, fun _ _ _ _ h => h⟩
theorem dOn13_0 : Rg.dstAt (Rg.opsOf Try.f101 13) 0 = some 66 := by kernel_rfl
theorem dOn13_1 : Rg.dstAt (Rg.opsOf Try.f101 13) 1 = some 67 := by kernel_rfl
theorem dOn13_2 : Rg.dstAt (Rg.opsOf Try.f101 13) 2 = some 68 := by kernel_rfl
theorem dOn13_3 : Rg.dstAt (Rg.opsOf Try.f101 13) 3 = some 69 := by kernel_rfl
theorem dOn13_4 : Rg.dstAt (Rg.opsOf Try.f101 13) 4 = some 70 := by kernel_rfl
theorem dOn13_5 : Rg.dstAt (Rg.opsOf Try.f101 13) 5 = some 71 := by kernel_rfl
theorem dOn13_6 : Rg.dstAt (Rg.opsOf Try.f101 13) 6 = some 72 := by kernel_rfl
theorem dOn13_7 : Rg.dstAt (Rg.opsOf Try.f101 13) 7 = some 73 := by kernel_rfl
theorem dOn13_8 : Rg.dstAt (Rg.opsOf Try.f101 13) 8 = some 6 := by kernel_rfl
theorem dOn13_9 : Rg.dstAt (Rg.opsOf Try.f101 13) 9 = some 7 := by kernel_rfl
theorem layOn13 {a b : Act} (hf : Rg.Fr (Rg.opsOf Try.f101 13) a b) : b = ((((((((((a.put (some 66) (Rg.out (Rg.opsOf Try.f101 13) b 0)).put (some 67) (Rg.out (Rg.opsOf Try.f101 13) b 1)).put (some 68) (Rg.out (Rg.opsOf Try.f101 13) b 2)).put (some 69) (Rg.out (Rg.opsOf Try.f101 13) b 3)).put (some 70) (Rg.out (Rg.opsOf Try.f101 13) b 4)).put (some 71) (Rg.out (Rg.opsOf Try.f101 13) b 5)).put (some 72) (Rg.out (Rg.opsOf Try.f101 13) b 6)).put (some 73) (Rg.out (Rg.opsOf Try.f101 13) b 7)).put (some 6) (Rg.out (Rg.opsOf Try.f101 13) b 8)).put (some 7) (Rg.out (Rg.opsOf Try.f101 13) b 9)) := by
  have h := hf.chain
  rw [sizeOn13, show List.range 10 = [0, 1, 2, 3, 4, 5, 6, 7, 8, 9] from by decide] at h
  simp only [List.foldl_cons, List.foldl_nil, dOn13_0, dOn13_1, dOn13_2, dOn13_3, dOn13_4, dOn13_5, dOn13_6, dOn13_7, dOn13_8, dOn13_9] at h
  exact h
def FDc1 (B : Nat) (a9 : Da) (x : Ut) (tv : Value) (st9 : Int) (i9 : Nat) (v : Value) (w : World) : Prop :=
  match i9 with
  | 0 => v = .iface (ifT st9) (.agg #[.int .i64 x.id, .int .i64 x.grp, tv, .int .i64 x.til, .int .i64 x.st, .int .i64 x.fr])
  | 1 => v = .agg #[.int .i64 x.id, .int .i64 x.grp, tv, .int .i64 x.til, .int .i64 x.st, .int .i64 x.fr]
  | 2 => v = .int .i64 x.id
  | 3 => v = .pointer (some ⟨B, 1, none⟩)
  | 4 => v = .int .i64 a9.id
  | 5 => v = .bool (decide (x.id = a9.id))
  | 6 => v = .bool (decide (x.id = a9.id))
  | _ => True
theorem sizeDc1 : (Rg.opsOf Try.f100 1).size = 7 := by kernel_rfl
set_option maxRecDepth 20000 in
set_option maxHeartbeats 8000000 in
theorem regDc1 {Q : Exit → Act → World → Prop} {a : Act} {w9 : World} {B : Nat} {a9 : Da} {x : Ut} {tv : Value} {st9 : Int} (ha : a.tmps.size = 10)
    (k0 : a.tmps[0]? = some (.iface (ifT st9) (.agg #[.int .i64 x.id, .int .i64 x.grp, tv, .int .i64 x.til, .int .i64 x.st, .int .i64 x.fr]))) (k1 : a.tmps[1]? = some (.pointer (some ⟨B, 0, none⟩))) (hD : PB w9 B #[.int .i64 a9.k, .int .i64 a9.id, .int .i64 a9.t] 35)(hT : ∀ W, Below w9.heap.size w9 W → Calls Try.prog 195 #[.agg #[.int .i64 x.id, .int .i64 x.grp, tv, .int .i64 x.til, .int .i64 x.st, .int .i64 x.fr]] W fun e W' => e = .returned (.agg #[.int .i64 x.id, .int .i64 x.grp, tv, .int .i64 x.til, .int .i64 x.st, .int .i64 x.fr]) ∧ Below W.heap.size W W')
    (hend : ∀ b' w', Rg.Fr (Rg.opsOf Try.f100 1) a b' → Below w9.heap.size w9 w' → Rg.out (Rg.opsOf Try.f100 1) b' 6 = .bool (decide (x.id = a9.id)) → Q .normal b' w') :
    (Code.region 1 (Rg.opsOf Try.f100 1) true).wp Try.prog Q a w9 := by
  refine Rg.region_set3 (by kernel_rfl) (fun _ w' => Below w9.heap.size w9 w') (FDc1 B a9 x tv st9) (by rw [ha, sizeDc1]; kernel_rfl) (st_drew (Below.refl _ _)) ?_ ?_
  case refine_2 =>
    intro l b' w' hf hall hI hA
    rw [sizeDc1] at hA
    exact hend b' w' hf hI (hA 6 (by decide))
  case refine_1 =>
    clear hend
    have HS : ∀ {w w' : World}, Below w.heap.size w w' → ∀ k9 y9, FDc1 B a9 x tv st9 k9 y9 w → FDc1 B a9 x tv st9 k9 y9 w' := fun hb k9 y9 h => by
      unfold FDc1 at *
      split at h <;> exact h
    intro i' hi'
    rw [sizeDc1] at hi'
    rcases (show i' = 0 ∨ i' = 1 ∨ i' = 2 ∨ i' = 3 ∨ i' = 4 ∨ i' = 5 ∨ i' = 6 by omega) with rfl | rfl | rfl | rfl | rfl | rfl | rfl
    · intro ll bb w' hs hlf hN hO hf hI hA
      clear hi'
      have q0 := hf.kept (s := 0) (by rw [sizeDc1]; kernel_rfl) k0
      exact Rg.op_value (o := ⟨some 4, Op.move (Operand.tmp 0), _, _, _, _⟩) (x := .iface (ifT st9) (.agg #[.int .i64 x.id, .int .i64 x.grp, tv, .int .i64 x.til, .int .i64 x.st, .int .i64 x.fr])) rfl rfl (by clear hA HS hN hO hD hT; simp only [execOp]; go_simp) ⟨_, rfl, (fun h => by cases h), rfl, hI, fun _ _ _ _ h => h⟩
    · intro ll bb w' hs hlf hN hO hf hI hA
      clear hi'
      have q4 : bb.tmps[4]? = some _ := hf.tmp (k := 0) rfl (by rw [ha]; decide) (hA 0 (by kernel_rfl))
      have hm := fun a b c d e s W => m_told st9 a b c d e s W
      refine Rg.op_call (o := ⟨some 5, Op.call { callee := Callee.invoke (Operand.tmp 4) "loop.example/g00060/impl.told", args := #[], argTypes := _ }, _, _, _, _⟩) rfl rfl (by clear hA HS hN hO hD hT; simp only [execOp, resolve]; go_simp) (hT w' hI) ?_
      rintro e w2 ⟨rfl, hb2⟩
      exact ⟨_, rfl, _, rfl, (fun h => by cases h), rfl, onto hI hb2, fun k9 y9 _ _ h => HS hb2 k9 y9 h⟩
    · intro ll bb w' hs hlf hN hO hf hI hA
      clear hi'
      have q5 : bb.tmps[5]? = some _ := hf.tmp (k := 1) rfl (by rw [ha]; decide) (hA 1 (by kernel_rfl))
      have hfl := fld0
      exact Rg.op_value (o := ⟨some 6, Op.field 81 (Operand.tmp 5) 0, _, _, _, _⟩) (x := .int .i64 x.id) rfl rfl (by clear hA HS hN hO hD hT; simp only [execOp]; go_simp) ⟨_, rfl, (fun h => by cases h), rfl, hI, fun _ _ _ _ h => h⟩
    · intro ll bb w' hs hlf hN hO hf hI hA
      clear hi'
      have q1 := hf.kept (s := 1) (by rw [sizeDc1]; kernel_rfl) k1
      exact Rg.op_value (o := ⟨some 7, Op.fieldAddr 35 (Operand.tmp 1) 1, _, _, _, _⟩) (x := .pointer (some ⟨B, 1, none⟩)) rfl rfl (by clear hA HS hN hO hD hT; simp only [execOp]; go_simp) ⟨_, rfl, (fun h => by cases h), rfl, hI, fun _ _ _ _ h => h⟩
    · intro ll bb w' hs hlf hN hO hf hI hA
      clear hi'
      have q7 : bb.tmps[7]? = some _ := hf.tmp (k := 3) rfl (by rw [ha]; decide) (hA 3 (by kernel_rfl))
      obtain ⟨b0, b1, b2⟩ := (hD.below hI).three
      exact Rg.op_value (o := ⟨some 8, Op.load 2 (Operand.tmp 7), _, _, _, _⟩) (x := .int .i64 a9.id) rfl rfl (by clear hA HS hN hO hD hT; simp only [execOp]; go_simp) ⟨_, rfl, (fun h => by cases h), rfl, hI, fun _ _ _ _ h => h⟩
    · intro ll bb w' hs hlf hN hO hf hI hA
      clear hi'
      have q6 : bb.tmps[6]? = some _ := hf.tmp (k := 2) rfl (by rw [ha]; decide) (hA 2 (by kernel_rfl))
      have q8 : bb.tmps[8]? = some _ := hf.tmp (k := 4) rfl (by rw [ha]; decide) (hA 4 (by kernel_rfl))
      exact Rg.op_value (o := ⟨some 9, Op.binOp BinOp.eql 2 (Operand.tmp 6) (Operand.tmp 8) 2, _, _, _, _⟩) (x := .bool (decide (x.id = a9.id))) rfl rfl (by clear hA HS hN hO hD hT; simp only [execOp]; go_simp; try rfl) ⟨_, rfl, (fun h => by cases h), rfl, hI, fun _ _ _ _ h => h⟩
    · intro ll bb w' hs hlf hN hO hf hI hA
      clear hi'
      have q9 : bb.tmps[9]? = some _ := hf.tmp (k := 5) rfl (by rw [ha]; decide) (hA 5 (by kernel_rfl))
      exact Rg.op_value (o := ⟨some 3, Op.assign (Operand.tmp 9), _, _, _, _⟩) (x := .bool (decide (x.id = a9.id))) rfl rfl (by clear hA HS hN hO hD hT; simp only [execOp]; go_simp) ⟨_, rfl, (fun h => by cases h), rfl, hI, fun _ _ _ _ h => h⟩
theorem dDc1_0 : Rg.dstAt (Rg.opsOf Try.f100 1) 0 = some 4 := by kernel_rfl
theorem dDc1_1 : Rg.dstAt (Rg.opsOf Try.f100 1) 1 = some 5 := by kernel_rfl
theorem dDc1_2 : Rg.dstAt (Rg.opsOf Try.f100 1) 2 = some 6 := by kernel_rfl
theorem dDc1_3 : Rg.dstAt (Rg.opsOf Try.f100 1) 3 = some 7 := by kernel_rfl
theorem dDc1_4 : Rg.dstAt (Rg.opsOf Try.f100 1) 4 = some 8 := by kernel_rfl
theorem dDc1_5 : Rg.dstAt (Rg.opsOf Try.f100 1) 5 = some 9 := by kernel_rfl
theorem dDc1_6 : Rg.dstAt (Rg.opsOf Try.f100 1) 6 = some 3 := by kernel_rfl
theorem layDc1 {a b : Act} (hf : Rg.Fr (Rg.opsOf Try.f100 1) a b) : b = (((((((a.put (some 4) (Rg.out (Rg.opsOf Try.f100 1) b 0)).put (some 5) (Rg.out (Rg.opsOf Try.f100 1) b 1)).put (some 6) (Rg.out (Rg.opsOf Try.f100 1) b 2)).put (some 7) (Rg.out (Rg.opsOf Try.f100 1) b 3)).put (some 8) (Rg.out (Rg.opsOf Try.f100 1) b 4)).put (some 9) (Rg.out (Rg.opsOf Try.f100 1) b 5)).put (some 3) (Rg.out (Rg.opsOf Try.f100 1) b 6)) := by
  have h := hf.chain
  rw [sizeDc1, show List.range 7 = [0, 1, 2, 3, 4, 5, 6] from by decide] at h
  simp only [List.foldl_cons, List.foldl_nil, dDc1_0, dDc1_1, dDc1_2, dDc1_3, dDc1_4, dDc1_5, dDc1_6] at h
  exact h
end Go.Proofs.Ytgcpiinmcbdkmaa
