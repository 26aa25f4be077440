/-
  Merged: Pk24.
-/
import Derived.Test.YtgcpiinmcbdkmaaMh39
import Derived.Test.YtgcpiinmcbdkmaaMh4
namespace Go.Proofs.Ytgcpiinmcbdkmaa
open Go.RowKit Va Bl Pq
set_option linter.all false
def FFp10 (w9 : World) (BN G m kR i : Nat) (ad9 : Option Addr) (dl dc : Nat) (n : Nd) (nv9 : Value) (z t9 : Int) (L1 : List Ut) (i9 : Nat) (v : Value) (w : World) : Prop :=
  match i9 with
  | 0 => v = .slice ad9 dl dc
  | 1 => v = .agg #[.int .i64 n.p, .int .i64 n.g, nv9]
  | 2 => v = .slice (some ⟨G, 0, none⟩) m kR
  | 3 => v = .int .i64 (i : Nat)
  | 4 => v = .pointer (some ⟨G, i, none⟩)
  | 5 => v = .int .i64 z
  | 6 => v = .int .i64 t9
  | 7 => v = .agg #[.int .i64 1, .int .i64 z, .int .i64 t9]
  | 8 => ∃ ad1 c1, v = .tuple #[.slice ad1 L1.length c1, .int .i64 0] ∧ URw w (.slice ad1 L1.length c1) L1
  | 9 => ∃ ad1 c1, v = .tuple #[.slice ad1 L1.length c1, .int .i64 0] ∧ URw w (.slice ad1 L1.length c1) L1
  | 10 => ∃ ad1 c1, v = .slice ad1 L1.length c1 ∧ URw w (.slice ad1 L1.length c1) L1
  | 11 => v = .int .i64 0
  | 12 => ∃ ad1 c1, v = .slice ad1 L1.length c1 ∧ URw w (.slice ad1 L1.length c1) L1
  | 13 => v = .int .i64 0
  | _ => True
theorem sizeFp10 : (Rg.opsOf Try.f3 10).size = 14 := by kernel_rfl
set_option maxRecDepth 20000 in
set_option maxHeartbeats 8000000 in
theorem regFp10 {Q : Exit → Act → World → Prop} {a : Act} {w9 : World} {BN G m kR i : Nat} {ad9 : Option Addr} {dl dc : Nat} {n : Nd} {nv9 : Value} {z t9 : Int} {L1 : List Ut} (ha : a.tmps.size = 87)
    (k3 : a.tmps[3]? = some (.slice ad9 dl dc)) (k4 : a.tmps[4]? = some (.pointer (some ⟨BN, 0, none⟩))) (k7 : a.tmps[7]? = some (.slice (some ⟨G, 0, none⟩) m kR)) (k8 : a.tmps[8]? = some (.int .i64 (i : Nat))) (k5 : a.tmps[5]? = some (.int .i64 t9)) (hE : PB w9 BN #[.int .i64 n.p, .int .i64 n.g, nv9] 27) (hGl : G < w9.heap.size) (hc : w9.cell? ⟨G, i, none⟩ = some (.int .i64 z)) (him : i < m) (hD : ∀ W, Below w9.heap.size w9 W → Calls Try.prog 13 #[.slice ad9 dl dc, .agg #[.int .i64 n.p, .int .i64 n.g, nv9], .agg #[.int .i64 1, .int .i64 z, .int .i64 t9]] W fun e W' => ∃ ad1 c1, e = .returned (.tuple #[.slice ad1 L1.length c1, .int .i64 0]) ∧ URw W' (.slice ad1 L1.length c1) L1 ∧ Below W.heap.size W W')
    (hend : ∀ b' w', Rg.Fr (Rg.opsOf Try.f3 10) a b' → Below w9.heap.size w9 w' → (∃ ad1 c1, Rg.out (Rg.opsOf Try.f3 10) b' 12 = .slice ad1 L1.length c1 ∧ URw w' (.slice ad1 L1.length c1) L1) → Rg.out (Rg.opsOf Try.f3 10) b' 13 = .int .i64 0 → Q .normal b' w') :
    (Code.region 10 (Rg.opsOf Try.f3 10) true).wp Try.prog Q a w9 := by
  refine Rg.region_set3 (by kernel_rfl) (fun _ w' => Below w9.heap.size w9 w') (FFp10 w9 BN G m kR i ad9 dl dc n nv9 z t9 L1) (by rw [ha, sizeFp10]; kernel_rfl) (st_drew (Below.refl _ _)) ?_ ?_
  case refine_2 =>
    intro l b' w' hf hall hI hA
    rw [sizeFp10] at hA
    exact hend b' w' hf hI (hA 12 (by decide)) (hA 13 (by decide))
  case refine_1 =>
    clear hend
    have HS : ∀ {w w' : World}, Below w.heap.size w w' → ∀ k9 y9, FFp10 w9 BN G m kR i ad9 dl dc n nv9 z t9 L1 k9 y9 w → FFp10 w9 BN G m kR i ad9 dl dc n nv9 z t9 L1 k9 y9 w' := by
      intro w w' hb k9 y9 h
      rcases (show k9 = 0 ∨ k9 = 1 ∨ k9 = 2 ∨ k9 = 3 ∨ k9 = 4 ∨ k9 = 5 ∨ k9 = 6 ∨ k9 = 7 ∨ k9 = 8 ∨ k9 = 9 ∨ k9 = 10 ∨ k9 = 11 ∨ k9 = 12 ∨ k9 = 13 ∨ 14 ≤ k9 by omega) with rfl | rfl | rfl | rfl | rfl | rfl | rfl | rfl | rfl | rfl | rfl | rfl | rfl | rfl | hk9
      · exact h
      · exact h
      · exact h
      · exact h
      · exact h
      · exact h
      · exact h
      · exact h
      · obtain ⟨ad1, c1, e9, hO1⟩ := h
        exact ⟨_, _, e9, hO1.below hb⟩
      · obtain ⟨ad1, c1, e9, hO1⟩ := h
        exact ⟨_, _, e9, hO1.below hb⟩
      · obtain ⟨ad1, c1, e9, hO1⟩ := h
        exact ⟨_, _, e9, hO1.below hb⟩
      · exact h
      · obtain ⟨ad1, c1, e9, hO1⟩ := h
        exact ⟨_, _, e9, hO1.below hb⟩
      · exact h
      · unfold FFp10
        split
        · omega
        · omega
        · omega
        · omega
        · omega
        · omega
        · omega
        · omega
        · omega
        · omega
        · omega
        · omega
        · omega
        · omega
        · trivial
    intro i' hi'
    rw [sizeFp10] at hi'
    rcases (show i' = 0 ∨ i' = 1 ∨ i' = 2 ∨ i' = 3 ∨ i' = 4 ∨ i' = 5 ∨ i' = 6 ∨ i' = 7 ∨ i' = 8 ∨ i' = 9 ∨ i' = 10 ∨ i' = 11 ∨ i' = 12 ∨ i' = 13 by omega) with rfl | rfl | rfl | rfl | rfl | rfl | rfl | rfl | rfl | rfl | rfl | rfl | rfl | rfl
    · intro ll bb w' hs hlf hN hO hf hI hA
      clear hi'
      have q3 := hf.kept (s := 3) (by rw [sizeFp10]; kernel_rfl) k3
      exact Rg.op_value (o := ⟨some 46, Op.move (Operand.tmp 3), _, _, _, _⟩) (x := .slice ad9 dl dc) rfl rfl (by clear hA HS hN hO hE hD; simp only [execOp]; go_simp) ⟨_, rfl, (fun h => by cases h), rfl, hI, fun _ _ _ _ h => h⟩
    · intro ll bb w' hs hlf hN hO hf hI hA
      clear hi'
      have q4 := hf.kept (s := 4) (by rw [sizeFp10]; kernel_rfl) k4
      obtain ⟨d0, d1, d2⟩ := (hE.below hI).three
      exact Rg.op_value (o := ⟨some 47, Op.load 27 (Operand.tmp 4), _, _, _, _⟩) (x := .agg #[.int .i64 n.p, .int .i64 n.g, nv9]) rfl rfl (by clear hA HS hN hO hE hD; simp only [execOp]; go_simp) ⟨_, rfl, (fun h => by cases h), rfl, hI, fun _ _ _ _ h => h⟩
    · intro ll bb w' hs hlf hN hO hf hI hA
      clear hi'
      have q7 := hf.kept (s := 7) (by rw [sizeFp10]; kernel_rfl) k7
      exact Rg.op_value (o := ⟨some 48, Op.move (Operand.tmp 7), _, _, _, _⟩) (x := .slice (some ⟨G, 0, none⟩) m kR) rfl rfl (by clear hA HS hN hO hE hD; simp only [execOp]; go_simp) ⟨_, rfl, (fun h => by cases h), rfl, hI, fun _ _ _ _ h => h⟩
    · intro ll bb w' hs hlf hN hO hf hI hA
      clear hi'
      have q8 := hf.kept (s := 8) (by rw [sizeFp10]; kernel_rfl) k8
      exact Rg.op_value (o := ⟨some 49, Op.move (Operand.tmp 8), _, _, _, _⟩) (x := .int .i64 (i : Nat)) rfl rfl (by clear hA HS hN hO hE hD; simp only [execOp]; go_simp) ⟨_, rfl, (fun h => by cases h), rfl, hI, fun _ _ _ _ h => h⟩
    · intro ll bb w' hs hlf hN hO hf hI hA
      clear hi'
      have q48 : bb.tmps[48]? = some _ := hf.tmp (k := 2) rfl (by rw [ha]; decide) (hA 2 (by kernel_rfl))
      have q49 : bb.tmps[49]? = some _ := hf.tmp (k := 3) rfl (by rw [ha]; decide) (hA 3 (by kernel_rfl))
      have hi9 : ((i : Nat) : Int) < (m : Int) := by omega
      exact Rg.op_value (o := ⟨some 50, Op.indexAddr 25 (Operand.tmp 48) (Operand.tmp 49), _, _, _, _⟩) (x := .pointer (some ⟨G, i, none⟩)) rfl rfl (by clear hA HS hN hO hE hD; simp only [execOp]; go_simp) ⟨_, rfl, (fun h => by cases h), rfl, hI, fun _ _ _ _ h => h⟩
    · intro ll bb w' hs hlf hN hO hf hI hA
      clear hi'
      have q50 : bb.tmps[50]? = some _ := hf.tmp (k := 4) rfl (by rw [ha]; decide) (hA 4 (by kernel_rfl))
      have e5 := (hI.cell (p := ⟨G, i, none⟩) hGl).trans hc
      exact Rg.op_value (o := ⟨some 51, Op.load 2 (Operand.tmp 50), _, _, _, _⟩) (x := .int .i64 z) rfl rfl (by clear hA HS hN hO hE hD; simp only [execOp]; go_simp) ⟨_, rfl, (fun h => by cases h), rfl, hI, fun _ _ _ _ h => h⟩
    · intro ll bb w' hs hlf hN hO hf hI hA
      clear hi'
      have q5 := hf.kept (s := 5) (by rw [sizeFp10]; kernel_rfl) k5
      exact Rg.op_value (o := ⟨some 52, Op.move (Operand.tmp 5), _, _, _, _⟩) (x := .int .i64 t9) rfl rfl (by clear hA HS hN hO hE hD; simp only [execOp]; go_simp) ⟨_, rfl, (fun h => by cases h), rfl, hI, fun _ _ _ _ h => h⟩
    · intro ll bb w' hs hlf hN hO hf hI hA
      clear hi'
      have q51 : bb.tmps[51]? = some _ := hf.tmp (k := 5) rfl (by rw [ha]; decide) (hA 5 (by kernel_rfl))
      have q52 : bb.tmps[52]? = some _ := hf.tmp (k := 6) rfl (by rw [ha]; decide) (hA 6 (by kernel_rfl))
      exact Rg.op_value (o := ⟨some 53, Op.build 35 #[(0, (Operand.const (Value.int .i64 1))), (1, (Operand.tmp 51)), (2, (Operand.tmp 52))], _, _, _, _⟩) (x := .agg #[.int .i64 1, .int .i64 z, .int .i64 t9]) rfl rfl (by clear hA HS hN hO hE hD; simp only [execOp]; go_simp) ⟨_, rfl, (fun h => by cases h), rfl, hI, fun _ _ _ _ h => h⟩
    · intro ll bb w' hs hlf hN hO hf hI hA
      clear hi'
      have q46 : bb.tmps[46]? = some _ := hf.tmp (k := 0) rfl (by rw [ha]; decide) (hA 0 (by kernel_rfl))
      have q47 : bb.tmps[47]? = some _ := hf.tmp (k := 1) rfl (by rw [ha]; decide) (hA 1 (by kernel_rfl))
      have q53 : bb.tmps[53]? = some _ := hf.tmp (k := 7) rfl (by rw [ha]; decide) (hA 7 (by kernel_rfl))
      refine Rg.op_call (o := ⟨some 54, Op.call { callee := Callee.value (Operand.func 13), args := #[(Operand.tmp 46), (Operand.tmp 47), (Operand.tmp 53)], argTypes := _ }, _, _, _, _⟩) rfl rfl (by clear hA HS hN hO hE hD; simp only [execOp, resolve]; go_simp) (hD w' hI) ?_
      rintro e w2 ⟨ad1, c1, rfl, h3, hb2⟩
      exact ⟨_, rfl, _, rfl, (fun h => by cases h), ⟨ad1, c1, rfl, h3⟩, onto hI hb2, fun k9 y9 _ _ h => HS hb2 k9 y9 h⟩
    · intro ll bb w' hs hlf hN hO hf hI hA
      clear hi'
      obtain ⟨ad1, c1, e8, hO1⟩ := hA 8 (by kernel_rfl)
      have q54 : bb.tmps[54]? = some _ := hf.tmp (k := 8) rfl (by rw [ha]; decide) e8
      exact Rg.op_value (o := ⟨some 45, Op.move (Operand.tmp 54), _, _, _, _⟩) (x := .tuple #[.slice ad1 L1.length c1, .int .i64 0]) rfl rfl (by clear hA HS hN hO hE hD; simp only [execOp]; go_simp) ⟨_, rfl, (fun h => by cases h), ⟨ad1, c1, rfl, hO1⟩, hI, fun _ _ _ _ h => h⟩
    · intro ll bb w' hs hlf hN hO hf hI hA
      clear hi'
      obtain ⟨ad1, c1, e9, hO1⟩ := hA 9 (by kernel_rfl)
      have q45 : bb.tmps[45]? = some _ := hf.tmp (k := 9) rfl (by rw [ha]; decide) e9
      exact Rg.op_value (o := ⟨some 55, Op.extract (Operand.tmp 45) 0, _, _, _, _⟩) (x := .slice ad1 L1.length c1) rfl rfl (by clear hA HS hN hO hE hD; simp only [execOp]; go_simp) ⟨_, rfl, (fun h => by cases h), ⟨ad1, c1, rfl, hO1⟩, hI, fun _ _ _ _ h => h⟩
    · intro ll bb w' hs hlf hN hO hf hI hA
      clear hi'
      obtain ⟨ad1, c1, e9, hO1⟩ := hA 9 (by kernel_rfl)
      have q45 : bb.tmps[45]? = some _ := hf.tmp (k := 9) rfl (by rw [ha]; decide) e9
      exact Rg.op_value (o := ⟨some 56, Op.extract (Operand.tmp 45) 1, _, _, _, _⟩) (x := .int .i64 0) rfl rfl (by clear hA HS hN hO hE hD; simp only [execOp]; go_simp) ⟨_, rfl, (fun h => by cases h), rfl, hI, fun _ _ _ _ h => h⟩
    · intro ll bb w' hs hlf hN hO hf hI hA
      clear hi'
      obtain ⟨ad1, c1, e10, hO1⟩ := hA 10 (by kernel_rfl)
      have q55 : bb.tmps[55]? = some _ := hf.tmp (k := 10) rfl (by rw [ha]; decide) e10
      exact Rg.op_value (o := ⟨some 9, Op.assign (Operand.tmp 55), _, _, _, _⟩) (x := .slice ad1 L1.length c1) rfl rfl (by clear hA HS hN hO hE hD; simp only [execOp]; go_simp) ⟨_, rfl, (fun h => by cases h), ⟨ad1, c1, rfl, hO1⟩, hI, fun _ _ _ _ h => h⟩
    · intro ll bb w' hs hlf hN hO hf hI hA
      clear hi'
      have q56 : bb.tmps[56]? = some _ := hf.tmp (k := 11) rfl (by rw [ha]; decide) (hA 11 (by kernel_rfl))
      exact Rg.op_value (o := ⟨some 10, Op.assign (Operand.tmp 56), _, _, _, _⟩) (x := .int .i64 0) rfl rfl (by clear hA HS hN hO hE hD; simp only [execOp]; go_simp) ⟨_, rfl, (fun h => by cases h), rfl, hI, fun _ _ _ _ h => h⟩
theorem dFp10_0 : Rg.dstAt (Rg.opsOf Try.f3 10) 0 = some 46 := by kernel_rfl
theorem dFp10_1 : Rg.dstAt (Rg.opsOf Try.f3 10) 1 = some 47 := by kernel_rfl
theorem dFp10_2 : Rg.dstAt (Rg.opsOf Try.f3 10) 2 = some 48 := by kernel_rfl
theorem dFp10_3 : Rg.dstAt (Rg.opsOf Try.f3 10) 3 = some 49 := by kernel_rfl
theorem dFp10_4 : Rg.dstAt (Rg.opsOf Try.f3 10) 4 = some 50 := by kernel_rfl
theorem dFp10_5 : Rg.dstAt (Rg.opsOf Try.f3 10) 5 = some 51 := by kernel_rfl
theorem dFp10_6 : Rg.dstAt (Rg.opsOf Try.f3 10) 6 = some 52 := by kernel_rfl
theorem dFp10_7 : Rg.dstAt (Rg.opsOf Try.f3 10) 7 = some 53 := by kernel_rfl
theorem dFp10_8 : Rg.dstAt (Rg.opsOf Try.f3 10) 8 = some 54 := by kernel_rfl
theorem dFp10_9 : Rg.dstAt (Rg.opsOf Try.f3 10) 9 = some 45 := by kernel_rfl
theorem dFp10_10 : Rg.dstAt (Rg.opsOf Try.f3 10) 10 = some 55 := by kernel_rfl
theorem dFp10_11 : Rg.dstAt (Rg.opsOf Try.f3 10) 11 = some 56 := by kernel_rfl
theorem dFp10_12 : Rg.dstAt (Rg.opsOf Try.f3 10) 12 = some 9 := by kernel_rfl
theorem dFp10_13 : Rg.dstAt (Rg.opsOf Try.f3 10) 13 = some 10 := by kernel_rfl
theorem layFp10 {a b : Act} (hf : Rg.Fr (Rg.opsOf Try.f3 10) a b) : b = ((((((((((((((a.put (some 46) (Rg.out (Rg.opsOf Try.f3 10) b 0)).put (some 47) (Rg.out (Rg.opsOf Try.f3 10) b 1)).put (some 48) (Rg.out (Rg.opsOf Try.f3 10) b 2)).put (some 49) (Rg.out (Rg.opsOf Try.f3 10) b 3)).put (some 50) (Rg.out (Rg.opsOf Try.f3 10) b 4)).put (some 51) (Rg.out (Rg.opsOf Try.f3 10) b 5)).put (some 52) (Rg.out (Rg.opsOf Try.f3 10) b 6)).put (some 53) (Rg.out (Rg.opsOf Try.f3 10) b 7)).put (some 54) (Rg.out (Rg.opsOf Try.f3 10) b 8)).put (some 45) (Rg.out (Rg.opsOf Try.f3 10) b 9)).put (some 55) (Rg.out (Rg.opsOf Try.f3 10) b 10)).put (some 56) (Rg.out (Rg.opsOf Try.f3 10) b 11)).put (some 9) (Rg.out (Rg.opsOf Try.f3 10) b 12)).put (some 10) (Rg.out (Rg.opsOf Try.f3 10) b 13)) := by
  have h := hf.chain
  rw [sizeFp10, show List.range 14 = [0, 1, 2, 3, 4, 5, 6, 7, 8, 9, 10, 11, 12, 13] from by decide] at h
  simp only [List.foldl_cons, List.foldl_nil, dFp10_0, dFp10_1, dFp10_2, dFp10_3, dFp10_4, dFp10_5, dFp10_6, dFp10_7, dFp10_8, dFp10_9, dFp10_10, dFp10_11, dFp10_12, dFp10_13] at h
  exact h
def FFp11 (w9 : World) (BN G m kR i : Nat) (ad9 : Option Addr) (dl dc : Nat) (n : Nd) (nv9 : Value) (z t9 : Int) (L1 : List Ut) (i9 : Nat) (v : Value) (w : World) : Prop :=
  match i9 with
  | 0 => v = .slice ad9 dl dc
  | 1 => v = .agg #[.int .i64 n.p, .int .i64 n.g, nv9]
  | 2 => v = .slice (some ⟨G, 0, none⟩) m kR
  | 3 => v = .int .i64 (i : Nat)
  | 4 => v = .pointer (some ⟨G, i, none⟩)
  | 5 => v = .int .i64 z
  | 6 => v = .int .i64 t9
  | 7 => v = .agg #[.int .i64 3, .int .i64 z, .int .i64 t9]
  | 8 => ∃ ad1 c1, v = .tuple #[.slice ad1 L1.length c1, .int .i64 0] ∧ URw w (.slice ad1 L1.length c1) L1
  | 9 => ∃ ad1 c1, v = .tuple #[.slice ad1 L1.length c1, .int .i64 0] ∧ URw w (.slice ad1 L1.length c1) L1
  | 10 => ∃ ad1 c1, v = .slice ad1 L1.length c1 ∧ URw w (.slice ad1 L1.length c1) L1
  | 11 => v = .int .i64 0
  | 12 => ∃ ad1 c1, v = .slice ad1 L1.length c1 ∧ URw w (.slice ad1 L1.length c1) L1
  | 13 => v = .int .i64 0
  | _ => True
theorem sizeFp11 : (Rg.opsOf Try.f3 11).size = 14 := by kernel_rfl
set_option maxRecDepth 20000 in
set_option maxHeartbeats 8000000 in
theorem regFp11 {Q : Exit → Act → World → Prop} {a : Act} {w9 : World} {BN G m kR i : Nat} {ad9 : Option Addr} {dl dc : Nat} {n : Nd} {nv9 : Value} {z t9 : Int} {L1 : List Ut} (ha : a.tmps.size = 87)
    (k9 : a.tmps[9]? = some (.slice ad9 dl dc)) (k4 : a.tmps[4]? = some (.pointer (some ⟨BN, 0, none⟩))) (k7 : a.tmps[7]? = some (.slice (some ⟨G, 0, none⟩) m kR)) (k8 : a.tmps[8]? = some (.int .i64 (i : Nat))) (k5 : a.tmps[5]? = some (.int .i64 t9)) (hE : PB w9 BN #[.int .i64 n.p, .int .i64 n.g, nv9] 27) (hGl : G < w9.heap.size) (hc : w9.cell? ⟨G, i, none⟩ = some (.int .i64 z)) (him : i < m) (hD : ∀ W, Below w9.heap.size w9 W → Calls Try.prog 13 #[.slice ad9 dl dc, .agg #[.int .i64 n.p, .int .i64 n.g, nv9], .agg #[.int .i64 3, .int .i64 z, .int .i64 t9]] W fun e W' => ∃ ad1 c1, e = .returned (.tuple #[.slice ad1 L1.length c1, .int .i64 0]) ∧ URw W' (.slice ad1 L1.length c1) L1 ∧ Below W.heap.size W W')
    (hend : ∀ b' w', Rg.Fr (Rg.opsOf Try.f3 11) a b' → Below w9.heap.size w9 w' → (∃ ad1 c1, Rg.out (Rg.opsOf Try.f3 11) b' 12 = .slice ad1 L1.length c1 ∧ URw w' (.slice ad1 L1.length c1) L1) → Rg.out (Rg.opsOf Try.f3 11) b' 13 = .int .i64 0 → Q .normal b' w') :
    (Code.region 11 (Rg.opsOf Try.f3 11) true).wp Try.prog Q a w9 := by
  refine Rg.region_set3 (by kernel_rfl) (fun _ w' => Below w9.heap.size w9 w') (FFp11 w9 BN G m kR i ad9 dl dc n nv9 z t9 L1) (by rw [ha, sizeFp11]; kernel_rfl) (st_drew (Below.refl _ _)) ?_ ?_
  case refine_2 =>
    intro l b' w' hf hall hI hA
    rw [sizeFp11] at hA
    exact hend b' w' hf hI (hA 12 (by decide)) (hA 13 (by decide))
  case refine_1 =>
    clear hend
    have HS : ∀ {w w' : World}, Below w.heap.size w w' → ∀ k9 y9, FFp11 w9 BN G m kR i ad9 dl dc n nv9 z t9 L1 k9 y9 w → FFp11 w9 BN G m kR i ad9 dl dc n nv9 z t9 L1 k9 y9 w' := by
      intro w w' hb k9 y9 h
      rcases (show k9 = 0 ∨ k9 = 1 ∨ k9 = 2 ∨ k9 = 3 ∨ k9 = 4 ∨ k9 = 5 ∨ k9 = 6 ∨ k9 = 7 ∨ k9 = 8 ∨ k9 = 9 ∨ k9 = 10 ∨ k9 = 11 ∨ k9 = 12 ∨ k9 = 13 ∨ 14 ≤ k9 by omega) with rfl | rfl | rfl | rfl | rfl | rfl | rfl | rfl | rfl | rfl | rfl | rfl | rfl | rfl | hk9
      · exact h
      · exact h
      · exact h
      · exact h
      · exact h
      · exact h
      · exact h
      · exact h
      · obtain ⟨ad1, c1, e9, hO1⟩ := h
        exact ⟨_, _, e9, hO1.below hb⟩
      · obtain ⟨ad1, c1, e9, hO1⟩ := h
        exact ⟨_, _, e9, hO1.below hb⟩
      · obtain ⟨ad1, c1, e9, hO1⟩ := h
        exact ⟨_, _, e9, hO1.below hb⟩
      · exact h
      · obtain ⟨ad1, c1, e9, hO1⟩ := h
        exact ⟨_, _, e9, hO1.below hb⟩
      · exact h
      · unfold FFp11
        split
        · omega
        · omega
        · omega
        · omega
        · omega
        · omega
        · omega
        · omega
        · omega
        · omega
        · omega
        · omega
        · omega
        · omega
        · trivial
    intro i' hi'
    rw [sizeFp11] at hi'
    rcases (show i' = 0 ∨ i' = 1 ∨ i' = 2 ∨ i' = 3 ∨ i' = 4 ∨ i' = 5 ∨ i' = 6 ∨ i' = 7 ∨ i' = 8 ∨ i' = 9 ∨ i' = 10 ∨ i' = 11 ∨ i' = 12 ∨ i' = 13 by omega) with rfl | rfl | rfl | rfl | rfl | rfl | rfl | rfl | rfl | rfl | rfl | rfl | rfl | rfl
    · intro ll bb w' hs hlf hN hO hf hI hA
      clear hi'
      have q9 := hf.kept (s := 9) (by rw [sizeFp11]; kernel_rfl) k9
      exact Rg.op_value (o := ⟨some 58, Op.move (Operand.tmp 9), _, _, _, _⟩) (x := .slice ad9 dl dc) rfl rfl (by clear hA HS hN hO hE hD; simp only [execOp]; go_simp) ⟨_, rfl, (fun h => by cases h), rfl, hI, fun _ _ _ _ h => h⟩
    · intro ll bb w' hs hlf hN hO hf hI hA
      clear hi'
      have q4 := hf.kept (s := 4) (by rw [sizeFp11]; kernel_rfl) k4
      obtain ⟨d0, d1, d2⟩ := (hE.below hI).three
      exact Rg.op_value (o := ⟨some 59, Op.load 27 (Operand.tmp 4), _, _, _, _⟩) (x := .agg #[.int .i64 n.p, .int .i64 n.g, nv9]) rfl rfl (by clear hA HS hN hO hE hD; simp only [execOp]; go_simp) ⟨_, rfl, (fun h => by cases h), rfl, hI, fun _ _ _ _ h => h⟩
    · intro ll bb w' hs hlf hN hO hf hI hA
      clear hi'
      have q7 := hf.kept (s := 7) (by rw [sizeFp11]; kernel_rfl) k7
      exact Rg.op_value (o := ⟨some 60, Op.move (Operand.tmp 7), _, _, _, _⟩) (x := .slice (some ⟨G, 0, none⟩) m kR) rfl rfl (by clear hA HS hN hO hE hD; simp only [execOp]; go_simp) ⟨_, rfl, (fun h => by cases h), rfl, hI, fun _ _ _ _ h => h⟩
    · intro ll bb w' hs hlf hN hO hf hI hA
      clear hi'
      have q8 := hf.kept (s := 8) (by rw [sizeFp11]; kernel_rfl) k8
      exact Rg.op_value (o := ⟨some 61, Op.move (Operand.tmp 8), _, _, _, _⟩) (x := .int .i64 (i : Nat)) rfl rfl (by clear hA HS hN hO hE hD; simp only [execOp]; go_simp) ⟨_, rfl, (fun h => by cases h), rfl, hI, fun _ _ _ _ h => h⟩
    · intro ll bb w' hs hlf hN hO hf hI hA
      clear hi'
      have q60 : bb.tmps[60]? = some _ := hf.tmp (k := 2) rfl (by rw [ha]; decide) (hA 2 (by kernel_rfl))
      have q61 : bb.tmps[61]? = some _ := hf.tmp (k := 3) rfl (by rw [ha]; decide) (hA 3 (by kernel_rfl))
      have hi9 : ((i : Nat) : Int) < (m : Int) := by omega
      exact Rg.op_value (o := ⟨some 62, Op.indexAddr 25 (Operand.tmp 60) (Operand.tmp 61), _, _, _, _⟩) (x := .pointer (some ⟨G, i, none⟩)) rfl rfl (by clear hA HS hN hO hE hD; simp only [execOp]; go_simp) ⟨_, rfl, (fun h => by cases h), rfl, hI, fun _ _ _ _ h => h⟩
    · intro ll bb w' hs hlf hN hO hf hI hA
      clear hi'
      have q62 : bb.tmps[62]? = some _ := hf.tmp (k := 4) rfl (by rw [ha]; decide) (hA 4 (by kernel_rfl))
      have e5 := (hI.cell (p := ⟨G, i, none⟩) hGl).trans hc
      exact Rg.op_value (o := ⟨some 63, Op.load 2 (Operand.tmp 62), _, _, _, _⟩) (x := .int .i64 z) rfl rfl (by clear hA HS hN hO hE hD; simp only [execOp]; go_simp) ⟨_, rfl, (fun h => by cases h), rfl, hI, fun _ _ _ _ h => h⟩
    · intro ll bb w' hs hlf hN hO hf hI hA
      clear hi'
      have q5 := hf.kept (s := 5) (by rw [sizeFp11]; kernel_rfl) k5
      exact Rg.op_value (o := ⟨some 64, Op.move (Operand.tmp 5), _, _, _, _⟩) (x := .int .i64 t9) rfl rfl (by clear hA HS hN hO hE hD; simp only [execOp]; go_simp) ⟨_, rfl, (fun h => by cases h), rfl, hI, fun _ _ _ _ h => h⟩
    · intro ll bb w' hs hlf hN hO hf hI hA
      clear hi'
      have q63 : bb.tmps[63]? = some _ := hf.tmp (k := 5) rfl (by rw [ha]; decide) (hA 5 (by kernel_rfl))
      have q64 : bb.tmps[64]? = some _ := hf.tmp (k := 6) rfl (by rw [ha]; decide) (hA 6 (by kernel_rfl))
      exact Rg.op_value (o := ⟨some 65, Op.build 35 #[(0, (Operand.const (Value.int .i64 3))), (1, (Operand.tmp 63)), (2, (Operand.tmp 64))], _, _, _, _⟩) (x := .agg #[.int .i64 3, .int .i64 z, .int .i64 t9]) rfl rfl (by clear hA HS hN hO hE hD; simp only [execOp]; go_simp) ⟨_, rfl, (fun h => by cases h), rfl, hI, fun _ _ _ _ h => h⟩
    · intro ll bb w' hs hlf hN hO hf hI hA
      clear hi'
      have q58 : bb.tmps[58]? = some _ := hf.tmp (k := 0) rfl (by rw [ha]; decide) (hA 0 (by kernel_rfl))
      have q59 : bb.tmps[59]? = some _ := hf.tmp (k := 1) rfl (by rw [ha]; decide) (hA 1 (by kernel_rfl))
      have q65 : bb.tmps[65]? = some _ := hf.tmp (k := 7) rfl (by rw [ha]; decide) (hA 7 (by kernel_rfl))
      refine Rg.op_call (o := ⟨some 66, Op.call { callee := Callee.value (Operand.func 13), args := #[(Operand.tmp 58), (Operand.tmp 59), (Operand.tmp 65)], argTypes := _ }, _, _, _, _⟩) rfl rfl (by clear hA HS hN hO hE hD; simp only [execOp, resolve]; go_simp) (hD w' hI) ?_
      rintro e w2 ⟨ad1, c1, rfl, h3, hb2⟩
      exact ⟨_, rfl, _, rfl, (fun h => by cases h), ⟨ad1, c1, rfl, h3⟩, onto hI hb2, fun k9 y9 _ _ h => HS hb2 k9 y9 h⟩
    · intro ll bb w' hs hlf hN hO hf hI hA
      clear hi'
      obtain ⟨ad1, c1, e8, hO1⟩ := hA 8 (by kernel_rfl)
      have q66 : bb.tmps[66]? = some _ := hf.tmp (k := 8) rfl (by rw [ha]; decide) e8
      exact Rg.op_value (o := ⟨some 57, Op.move (Operand.tmp 66), _, _, _, _⟩) (x := .tuple #[.slice ad1 L1.length c1, .int .i64 0]) rfl rfl (by clear hA HS hN hO hE hD; simp only [execOp]; go_simp) ⟨_, rfl, (fun h => by cases h), ⟨ad1, c1, rfl, hO1⟩, hI, fun _ _ _ _ h => h⟩
    · intro ll bb w' hs hlf hN hO hf hI hA
      clear hi'
      obtain ⟨ad1, c1, e9, hO1⟩ := hA 9 (by kernel_rfl)
      have q57 : bb.tmps[57]? = some _ := hf.tmp (k := 9) rfl (by rw [ha]; decide) e9
      exact Rg.op_value (o := ⟨some 67, Op.extract (Operand.tmp 57) 0, _, _, _, _⟩) (x := .slice ad1 L1.length c1) rfl rfl (by clear hA HS hN hO hE hD; simp only [execOp]; go_simp) ⟨_, rfl, (fun h => by cases h), ⟨ad1, c1, rfl, hO1⟩, hI, fun _ _ _ _ h => h⟩
    · intro ll bb w' hs hlf hN hO hf hI hA
      clear hi'
      obtain ⟨ad1, c1, e9, hO1⟩ := hA 9 (by kernel_rfl)
      have q57 : bb.tmps[57]? = some _ := hf.tmp (k := 9) rfl (by rw [ha]; decide) e9
      exact Rg.op_value (o := ⟨some 68, Op.extract (Operand.tmp 57) 1, _, _, _, _⟩) (x := .int .i64 0) rfl rfl (by clear hA HS hN hO hE hD; simp only [execOp]; go_simp) ⟨_, rfl, (fun h => by cases h), rfl, hI, fun _ _ _ _ h => h⟩
    · intro ll bb w' hs hlf hN hO hf hI hA
      clear hi'
      obtain ⟨ad1, c1, e10, hO1⟩ := hA 10 (by kernel_rfl)
      have q67 : bb.tmps[67]? = some _ := hf.tmp (k := 10) rfl (by rw [ha]; decide) e10
      exact Rg.op_value (o := ⟨some 11, Op.assign (Operand.tmp 67), _, _, _, _⟩) (x := .slice ad1 L1.length c1) rfl rfl (by clear hA HS hN hO hE hD; simp only [execOp]; go_simp) ⟨_, rfl, (fun h => by cases h), ⟨ad1, c1, rfl, hO1⟩, hI, fun _ _ _ _ h => h⟩
    · intro ll bb w' hs hlf hN hO hf hI hA
      clear hi'
      have q68 : bb.tmps[68]? = some _ := hf.tmp (k := 11) rfl (by rw [ha]; decide) (hA 11 (by kernel_rfl))
      exact Rg.op_value (o := ⟨some 12, Op.assign (Operand.tmp 68), _, _, _, _⟩) (x := .int .i64 0) rfl rfl (by clear hA HS hN hO hE hD; simp only [execOp]; go_simp) ⟨_, rfl, (fun h => by cases h), rfl, hI, fun _ _ _ _ h => h⟩
theorem dFp11_0 : Rg.dstAt (Rg.opsOf Try.f3 11) 0 = some 58 := by kernel_rfl
theorem dFp11_1 : Rg.dstAt (Rg.opsOf Try.f3 11) 1 = some 59 := by kernel_rfl
theorem dFp11_2 : Rg.dstAt (Rg.opsOf Try.f3 11) 2 = some 60 := by kernel_rfl
theorem dFp11_3 : Rg.dstAt (Rg.opsOf Try.f3 11) 3 = some 61 := by kernel_rfl
theorem dFp11_4 : Rg.dstAt (Rg.opsOf Try.f3 11) 4 = some 62 := by kernel_rfl
theorem dFp11_5 : Rg.dstAt (Rg.opsOf Try.f3 11) 5 = some 63 := by kernel_rfl
theorem dFp11_6 : Rg.dstAt (Rg.opsOf Try.f3 11) 6 = some 64 := by kernel_rfl
theorem dFp11_7 : Rg.dstAt (Rg.opsOf Try.f3 11) 7 = some 65 := by kernel_rfl
theorem dFp11_8 : Rg.dstAt (Rg.opsOf Try.f3 11) 8 = some 66 := by kernel_rfl
theorem dFp11_9 : Rg.dstAt (Rg.opsOf Try.f3 11) 9 = some 57 := by kernel_rfl
theorem dFp11_10 : Rg.dstAt (Rg.opsOf Try.f3 11) 10 = some 67 := by kernel_rfl
theorem dFp11_11 : Rg.dstAt (Rg.opsOf Try.f3 11) 11 = some 68 := by kernel_rfl
theorem dFp11_12 : Rg.dstAt (Rg.opsOf Try.f3 11) 12 = some 11 := by kernel_rfl
theorem dFp11_13 : Rg.dstAt (Rg.opsOf Try.f3 11) 13 = some 12 := by kernel_rfl
theorem layFp11 {a b : Act} (hf : Rg.Fr (Rg.opsOf Try.f3 11) a b) : b = ((((((((((((((a.put (some 58) (Rg.out (Rg.opsOf Try.f3 11) b 0)).put (some 59) (Rg.out (Rg.opsOf Try.f3 11) b 1)).put (some 60) (Rg.out (Rg.opsOf Try.f3 11) b 2)).put (some 61) (Rg.out (Rg.opsOf Try.f3 11) b 3)).put (some 62) (Rg.out (Rg.opsOf Try.f3 11) b 4)).put (some 63) (Rg.out (Rg.opsOf Try.f3 11) b 5)).put (some 64) (Rg.out (Rg.opsOf Try.f3 11) b 6)).put (some 65) (Rg.out (Rg.opsOf Try.f3 11) b 7)).put (some 66) (Rg.out (Rg.opsOf Try.f3 11) b 8)).put (some 57) (Rg.out (Rg.opsOf Try.f3 11) b 9)).put (some 67) (Rg.out (Rg.opsOf Try.f3 11) b 10)).put (some 68) (Rg.out (Rg.opsOf Try.f3 11) b 11)).put (some 11) (Rg.out (Rg.opsOf Try.f3 11) b 12)).put (some 12) (Rg.out (Rg.opsOf Try.f3 11) b 13)) := by
  have h := hf.chain
  rw [sizeFp11, show List.range 14 = [0, 1, 2, 3, 4, 5, 6, 7, 8, 9, 10, 11, 12, 13] from by decide] at h
  simp only [List.foldl_cons, List.foldl_nil, dFp11_0, dFp11_1, dFp11_2, dFp11_3, dFp11_4, dFp11_5, dFp11_6, dFp11_7, dFp11_8, dFp11_9, dFp11_10, dFp11_11, dFp11_12, dFp11_13] at h
  exact h
def FFp12 (BN G m kR i : Nat) (ad9 : Option Addr) (dl dc : Nat) (n : Nd) (nv9 : Value) (z : Int) (TL : List Int) (i9 : Nat) (v : Value) (w : World) : Prop :=
  match i9 with
  | 0 => v = .int .i64 0
  | 1 => v = .bool false
  | 2 => v = .bool false
  | 3 => v = cond (true && (false == false)) (.int .i64 0) undef
  | 4 => v = cond (true && (false == false)) (.bool false) undef
  | 5 => v = .bool (false || false)
  | 6 => v = .bool (false || false)
  | 7 => v = cond (true && ((false || false) == false)) (.slice ad9 dl dc) undef
  | 8 => v = cond (true && ((false || false) == false)) (.pointer (some ⟨BN, 0, none⟩)) undef
  | 9 => v = cond (true && ((false || false) == false)) (.int .i64 n.p) undef
  | 10 => ∃ ad c b9, v = .slice ad TL.length c ∧ w.ownsRow b9 2 1 (.slice ad TL.length c) TL.length (intsV TL)
  | 11 => v = cond (true && ((false || false) == false)) (.slice (some ⟨G, 0, none⟩) m kR) undef
  | 12 => v = cond (true && ((false || false) == false)) (.int .i64 (i : Nat)) undef
  | 13 => v = cond (true && ((false || false) == false)) (.pointer (some ⟨G, i, none⟩)) undef
  | 14 => v = cond (true && ((false || false) == false)) (.int .i64 z) undef
  | 15 => v = cond (true && ((false || false) == false)) (.bool true) undef
  | 16 => v = cond (true && ((false || false) == false)) (.bool (!true)) undef
  | 17 => v = .bool ((false || false) || (!true))
  | _ => True
theorem sizeFp12 : (Rg.opsOf Try.f3 12).size = 18 := by kernel_rfl
set_option maxRecDepth 20000 in
set_option maxHeartbeats 8000000 in
theorem regFp12 {Q : Exit → Act → World → Prop} {a : Act} {w9 : World} {BN G m kR i : Nat} {ad9 : Option Addr} {dl dc : Nat} {n : Nd} {nv9 : Value} {z : Int} {TL : List Int} (ha : a.tmps.size = 87)
    (k10 : a.tmps[10]? = some (.int .i64 0)) (k12 : a.tmps[12]? = some (.int .i64 0)) (k11 : a.tmps[11]? = some (.slice ad9 dl dc)) (k4 : a.tmps[4]? = some (.pointer (some ⟨BN, 0, none⟩))) (k7 : a.tmps[7]? = some (.slice (some ⟨G, 0, none⟩) m kR)) (k8 : a.tmps[8]? = some (.int .i64 (i : Nat))) (hE : PB w9 BN #[.int .i64 n.p, .int .i64 n.g, nv9] 27) (hGl : G < w9.heap.size) (hc : w9.cell? ⟨G, i, none⟩ = some (.int .i64 z)) (him : i < m) (hT : ∀ W, Below w9.heap.size w9 W → Calls Try.prog 15 #[.slice ad9 dl dc, .int .i64 n.p] W fun e W' => ∃ ad c, e = .returned (.slice ad TL.length c) ∧ W'.ownsRow W.heap.size 2 1 (.slice ad TL.length c) TL.length (intsV TL) ∧ Below W.heap.size W W') (hH : ∀ (ad : Option Addr) (c b9 : Nat) (w : World), w.ownsRow b9 2 1 (.slice ad TL.length c) TL.length (intsV TL) → Calls Try.prog 14 #[.slice ad TL.length c, .int .i64 z] w fun e w' => e = .returned (.bool true) ∧ w' = w)
    (hend : ∀ b' w', Rg.Fr (Rg.opsOf Try.f3 12) a b' → Below w9.heap.size w9 w' → Rg.out (Rg.opsOf Try.f3 12) b' 17 = .bool ((false || false) || (!true)) → Q .normal b' w') :
    (Code.region 12 (Rg.opsOf Try.f3 12) true).wp Try.prog Q a w9 := by
  refine Rg.region_set3 (by kernel_rfl) (fun _ w' => Below w9.heap.size w9 w') (FFp12 BN G m kR i ad9 dl dc n nv9 z TL) (by rw [ha, sizeFp12]; kernel_rfl) (st_drew (Below.refl _ _)) ?_ ?_
  case refine_2 =>
    intro l b' w' hf hall hI hA
    rw [sizeFp12] at hA
    exact hend b' w' hf hI (hA 17 (by decide))
  case refine_1 =>
    clear hend
    have HS : ∀ {w w' : World}, Below w.heap.size w w' → ∀ k9 y9, FFp12 BN G m kR i ad9 dl dc n nv9 z TL k9 y9 w → FFp12 BN G m kR i ad9 dl dc n nv9 z TL k9 y9 w' := fun hb k9 y9 h => by
      unfold FFp12 at *
      split at h <;> first | exact h | (obtain ⟨ad, c, b9, h1, h2⟩ := h; exact ⟨ad, c, b9, h1, ownW_below h2 hb⟩)
    intro i' hi'
    rw [sizeFp12] at hi'
    rcases (show i' = 0 ∨ i' = 1 ∨ i' = 2 ∨ i' = 3 ∨ i' = 4 ∨ i' = 5 ∨ i' = 6 ∨ i' = 7 ∨ i' = 8 ∨ i' = 9 ∨ i' = 10 ∨ i' = 11 ∨ i' = 12 ∨ i' = 13 ∨ i' = 14 ∨ i' = 15 ∨ i' = 16 ∨ i' = 17 by omega) with rfl | rfl | rfl | rfl | rfl | rfl | rfl | rfl | rfl | rfl | rfl | rfl | rfl | rfl | rfl | rfl | rfl | rfl
    · intro ll bb w' hs hlf hN hO hf hI hA
      clear hi'
      have q0 := hf.kept (s := 10) (by rw [sizeFp12]; kernel_rfl) k10
      exact Rg.op_value (o := ⟨some 69, Op.move (Operand.tmp 10), _, _, _, _⟩) (x := .int .i64 0) rfl rfl (by clear hA HS hN hO hE hT hH; simp only [execOp]; go_simp) ⟨_, rfl, (fun h => by cases h), rfl, hI, fun _ _ _ _ h => h⟩
    · intro ll bb w' hs hlf hN hO hf hI hA
      clear hi'
      have q69 : bb.tmps[69]? = some _ := hf.tmp (k := 0) rfl (by rw [ha]; decide) (hA 0 (by kernel_rfl))
      exact Rg.op_value (o := ⟨some 70, Op.binOp BinOp.neq 2 (Operand.tmp 69) (Operand.const (Value.int .i64 0)) 2, _, _, _, _⟩) (x := .bool false) rfl rfl (by clear hA HS hN hO hE hT hH; simp only [execOp]; go_simp) ⟨_, rfl, (fun h => by cases h), rfl, hI, fun _ _ _ _ h => h⟩
    · intro ll bb w' hs hlf hN hO hf hI hA
      clear hi'
      have q70 : bb.tmps[70]? = some _ := hf.tmp (k := 1) rfl (by rw [ha]; decide) (hA 1 (by kernel_rfl))
      exact Rg.op_value (o := ⟨some 71, Op.move (Operand.tmp 70), _, _, _, _⟩) (x := .bool false) rfl rfl (by clear hA HS hN hO hE hT hH; simp only [execOp]; go_simp) ⟨_, rfl, (fun h => by cases h), rfl, hI, fun _ _ _ _ h => h⟩
    · intro ll bb w' hs hlf hN hO hf hI hA
      clear hi'
      have qg : bb.tmps[71]? = some (cond true (.bool false) undef) := hf.tmp (k := 2) rfl (by rw [ha]; decide) (hA 2 (by kernel_rfl))
      cases hP : (true && (false == false)) with
      | false => exact Rg.op_none (o := ⟨some 72, _, _, _, _, _⟩) rfl (Rg.unwanted_c (g := 2) rfl rfl qg hP) ⟨_, rfl, (fun h => by cases h), Rg.cond_f hP, hI, fun _ _ _ _ h => h⟩
      | true =>
        have hw := Rg.wanted_c (ops := (Rg.opsOf Try.f3 12)) (o := (Rg.opsOf Try.f3 12)[3]'(by rw [sizeFp12]; decide)) (g := 2) rfl rfl qg hP
        have g0 := Rg.pc_r hP
        have q0 := hf.kept (s := 12) (by rw [sizeFp12]; kernel_rfl) k12
        exact Rg.op_value (o := ⟨some 72, Op.move (Operand.tmp 12), _, _, _, _⟩) (x := .int .i64 0) rfl hw (by clear hA HS hN hO hE hT hH; simp only [execOp]; go_simp) ⟨_, rfl, (fun h => by cases h), (Rg.cond_t hP).symm, hI, fun _ _ _ _ h => h⟩
    · intro ll bb w' hs hlf hN hO hf hI hA
      clear hi'
      have qg : bb.tmps[71]? = some (cond true (.bool false) undef) := hf.tmp (k := 2) rfl (by rw [ha]; decide) (hA 2 (by kernel_rfl))
      cases hP : (true && (false == false)) with
      | false => exact Rg.op_none (o := ⟨some 73, _, _, _, _, _⟩) rfl (Rg.unwanted_c (g := 2) rfl rfl qg hP) ⟨_, rfl, (fun h => by cases h), Rg.cond_f hP, hI, fun _ _ _ _ h => h⟩
      | true =>
        have hw := Rg.wanted_c (ops := (Rg.opsOf Try.f3 12)) (o := (Rg.opsOf Try.f3 12)[4]'(by rw [sizeFp12]; decide)) (g := 2) rfl rfl qg hP
        have g0 := Rg.pc_r hP
        have q72 : bb.tmps[72]? = some (.int .i64 0) := hf.tmp (k := 3) rfl (by rw [ha]; decide) (Eq.trans (hA 3 (by kernel_rfl)) (Rg.cond_t hP))
        exact Rg.op_value (o := ⟨some 73, Op.binOp BinOp.neq 2 (Operand.tmp 72) (Operand.const (Value.int .i64 0)) 2, _, _, _, _⟩) (x := .bool false) rfl hw (by clear hA HS hN hO hE hT hH; simp only [execOp]; go_simp) ⟨_, rfl, (fun h => by cases h), (Rg.cond_t hP).symm, hI, fun _ _ _ _ h => h⟩
    · intro ll bb w' hs hlf hN hO hf hI hA
      clear hi'
      have q71 : bb.tmps[71]? = some _ := hf.tmp (k := 2) rfl (by rw [ha]; decide) (hA 2 (by kernel_rfl))
      cases hC : false with
      | false =>
        have hB : (true && (false == false)) = true := by rw [hC]; rfl
        have q73 : bb.tmps[73]? = some (.bool false) := hf.tmp (k := 4) rfl (by rw [ha]; decide) (Eq.trans (hA 4 (by kernel_rfl)) (Rg.cond_t hB))
        have hval : ((.bool (false || false) : Value)) = .bool false := by rw [hC]; rfl
        exact Rg.op_value (o := ⟨some 74, Op.pick (Operand.tmp 71) (Operand.const (Value.bool true)) (Operand.tmp 73), _, _, _, _⟩) (x := .bool false) rfl rfl (by rw [hC] at q71; clear hA HS hN hO hE hT hH hval; simp only [execOp]; go_simp) ⟨_, rfl, (fun h => by cases h), (by show ((.bool false : Value)) = _; first | exact hval.symm | rfl), hI, fun _ _ _ _ h => h⟩
      | true =>
        have hval : ((.bool (false || false) : Value)) = .bool true := by rw [hC]; rfl
        exact Rg.op_value (o := ⟨some 74, Op.pick (Operand.tmp 71) (Operand.const (Value.bool true)) (Operand.tmp 73), _, _, _, _⟩) (x := .bool true) rfl rfl (by rw [hC] at q71; clear hA HS hN hO hE hT hH hval; simp only [execOp]; go_simp) ⟨_, rfl, (fun h => by cases h), (by show ((.bool true : Value)) = _; first | exact hval.symm | rfl), hI, fun _ _ _ _ h => h⟩
    · intro ll bb w' hs hlf hN hO hf hI hA
      clear hi'
      have q74 : bb.tmps[74]? = some _ := hf.tmp (k := 5) rfl (by rw [ha]; decide) (hA 5 (by kernel_rfl))
      exact Rg.op_value (o := ⟨some 75, Op.move (Operand.tmp 74), _, _, _, _⟩) (x := .bool (false || false)) rfl rfl (by clear hA HS hN hO hE hT hH; simp only [execOp]; go_simp) ⟨_, rfl, (fun h => by cases h), rfl, hI, fun _ _ _ _ h => h⟩
    · intro ll bb w' hs hlf hN hO hf hI hA
      clear hi'
      have qg : bb.tmps[75]? = some (cond true (.bool (false || false)) undef) := hf.tmp (k := 6) rfl (by rw [ha]; decide) (hA 6 (by kernel_rfl))
      cases hP : (true && ((false || false) == false)) with
      | false => exact Rg.op_none (o := ⟨some 76, _, _, _, _, _⟩) rfl (Rg.unwanted_c (g := 6) rfl rfl qg hP) ⟨_, rfl, (fun h => by cases h), Rg.cond_f hP, hI, fun _ _ _ _ h => h⟩
      | true =>
        have hw := Rg.wanted_c (ops := (Rg.opsOf Try.f3 12)) (o := (Rg.opsOf Try.f3 12)[7]'(by rw [sizeFp12]; decide)) (g := 6) rfl rfl qg hP
        have g0 := Rg.pc_r hP
        have q0 := hf.kept (s := 11) (by rw [sizeFp12]; kernel_rfl) k11
        exact Rg.op_value (o := ⟨some 76, Op.move (Operand.tmp 11), _, _, _, _⟩) (x := .slice ad9 dl dc) rfl hw (by clear hA HS hN hO hE hT hH; simp only [execOp]; go_simp) ⟨_, rfl, (fun h => by cases h), (Rg.cond_t hP).symm, hI, fun _ _ _ _ h => h⟩
    · intro ll bb w' hs hlf hN hO hf hI hA
      clear hi'
      have qg : bb.tmps[75]? = some (cond true (.bool (false || false)) undef) := hf.tmp (k := 6) rfl (by rw [ha]; decide) (hA 6 (by kernel_rfl))
      cases hP : (true && ((false || false) == false)) with
      | false => exact Rg.op_none (o := ⟨some 77, _, _, _, _, _⟩) rfl (Rg.unwanted_c (g := 6) rfl rfl qg hP) ⟨_, rfl, (fun h => by cases h), Rg.cond_f hP, hI, fun _ _ _ _ h => h⟩
      | true =>
        have hw := Rg.wanted_c (ops := (Rg.opsOf Try.f3 12)) (o := (Rg.opsOf Try.f3 12)[8]'(by rw [sizeFp12]; decide)) (g := 6) rfl rfl qg hP
        have g0 := Rg.pc_r hP
        have q4 := hf.kept (s := 4) (by rw [sizeFp12]; kernel_rfl) k4
        exact Rg.op_value (o := ⟨some 77, Op.fieldAddr 27 (Operand.tmp 4) 0, _, _, _, _⟩) (x := .pointer (some ⟨BN, 0, none⟩)) rfl hw (by clear hA HS hN hO hE hT hH; simp only [execOp]; go_simp) ⟨_, rfl, (fun h => by cases h), (Rg.cond_t hP).symm, hI, fun _ _ _ _ h => h⟩
    · intro ll bb w' hs hlf hN hO hf hI hA
      clear hi'
      have qg : bb.tmps[75]? = some (cond true (.bool (false || false)) undef) := hf.tmp (k := 6) rfl (by rw [ha]; decide) (hA 6 (by kernel_rfl))
      cases hP : (true && ((false || false) == false)) with
      | false => exact Rg.op_none (o := ⟨some 78, _, _, _, _, _⟩) rfl (Rg.unwanted_c (g := 6) rfl rfl qg hP) ⟨_, rfl, (fun h => by cases h), Rg.cond_f hP, hI, fun _ _ _ _ h => h⟩
      | true =>
        have hw := Rg.wanted_c (ops := (Rg.opsOf Try.f3 12)) (o := (Rg.opsOf Try.f3 12)[9]'(by rw [sizeFp12]; decide)) (g := 6) rfl rfl qg hP
        have g0 := Rg.pc_r hP
        have q77 : bb.tmps[77]? = some (.pointer (some ⟨BN, 0, none⟩)) := hf.tmp (k := 8) rfl (by rw [ha]; decide) (Eq.trans (hA 8 (by kernel_rfl)) (Rg.cond_t hP))
        obtain ⟨d0, d1, d2⟩ := (hE.below hI).three
        exact Rg.op_value (o := ⟨some 78, Op.load 2 (Operand.tmp 77), _, _, _, _⟩) (x := .int .i64 n.p) rfl hw (by clear hA HS hN hO hE hT hH; simp only [execOp]; go_simp) ⟨_, rfl, (fun h => by cases h), (Rg.cond_t hP).symm, hI, fun _ _ _ _ h => h⟩
    · intro ll bb w' hs hlf hN hO hf hI hA
      clear hi'
      have qg : bb.tmps[75]? = some (cond true (.bool (false || false)) undef) := hf.tmp (k := 6) rfl (by rw [ha]; decide) (hA 6 (by kernel_rfl))
      cases hP : (true && ((false || false) == false)) with
      | false => exact Rg.op_none (o := ⟨some 79, _, _, _, _, _⟩) rfl (Rg.unwanted_c (g := 6) rfl rfl qg hP) ⟨_, rfl, (fun h => by cases h), (by simp at hP), hI, fun _ _ _ _ h => h⟩
      | true =>
        have hw := Rg.wanted_c (ops := (Rg.opsOf Try.f3 12)) (o := (Rg.opsOf Try.f3 12)[10]'(by rw [sizeFp12]; decide)) (g := 6) rfl rfl qg hP
        have g0 := Rg.pc_r hP
        have q76 : bb.tmps[76]? = some (.slice ad9 dl dc) := hf.tmp (k := 7) rfl (by rw [ha]; decide) (Eq.trans (hA 7 (by kernel_rfl)) (Rg.cond_t hP))
        have q78 : bb.tmps[78]? = some (.int .i64 n.p) := hf.tmp (k := 9) rfl (by rw [ha]; decide) (Eq.trans (hA 9 (by kernel_rfl)) (Rg.cond_t hP))
        refine Rg.op_call (o := ⟨some 79, Op.call { callee := Callee.value (Operand.func 15), args := #[(Operand.tmp 76), (Operand.tmp 78)], argTypes := _ }, _, _, _, _⟩) rfl hw (by clear hA HS hN hO hE hT hH; simp only [execOp, resolve]; go_simp) (hT w' hI) ?_
        rintro e w2 ⟨ad, c, rfl, ho, hb2⟩
        exact ⟨_, rfl, _, rfl, (fun h => by cases h), ⟨ad, c, _, rfl, ho⟩, onto hI hb2, fun k9 y9 _ _ h => HS hb2 k9 y9 h⟩
    · intro ll bb w' hs hlf hN hO hf hI hA
      clear hi'
      have qg : bb.tmps[75]? = some (cond true (.bool (false || false)) undef) := hf.tmp (k := 6) rfl (by rw [ha]; decide) (hA 6 (by kernel_rfl))
      cases hP : (true && ((false || false) == false)) with
      | false => exact Rg.op_none (o := ⟨some 80, _, _, _, _, _⟩) rfl (Rg.unwanted_c (g := 6) rfl rfl qg hP) ⟨_, rfl, (fun h => by cases h), Rg.cond_f hP, hI, fun _ _ _ _ h => h⟩
      | true =>
        have hw := Rg.wanted_c (ops := (Rg.opsOf Try.f3 12)) (o := (Rg.opsOf Try.f3 12)[11]'(by rw [sizeFp12]; decide)) (g := 6) rfl rfl qg hP
        have g0 := Rg.pc_r hP
        have q0 := hf.kept (s := 7) (by rw [sizeFp12]; kernel_rfl) k7
        exact Rg.op_value (o := ⟨some 80, Op.move (Operand.tmp 7), _, _, _, _⟩) (x := .slice (some ⟨G, 0, none⟩) m kR) rfl hw (by clear hA HS hN hO hE hT hH; simp only [execOp]; go_simp) ⟨_, rfl, (fun h => by cases h), (Rg.cond_t hP).symm, hI, fun _ _ _ _ h => h⟩
    · intro ll bb w' hs hlf hN hO hf hI hA
      clear hi'
      have qg : bb.tmps[75]? = some (cond true (.bool (false || false)) undef) := hf.tmp (k := 6) rfl (by rw [ha]; decide) (hA 6 (by kernel_rfl))
      cases hP : (true && ((false || false) == false)) with
      | false => exact Rg.op_none (o := ⟨some 81, _, _, _, _, _⟩) rfl (Rg.unwanted_c (g := 6) rfl rfl qg hP) ⟨_, rfl, (fun h => by cases h), Rg.cond_f hP, hI, fun _ _ _ _ h => h⟩
      | true =>
        have hw := Rg.wanted_c (ops := (Rg.opsOf Try.f3 12)) (o := (Rg.opsOf Try.f3 12)[12]'(by rw [sizeFp12]; decide)) (g := 6) rfl rfl qg hP
        have g0 := Rg.pc_r hP
        have q0 := hf.kept (s := 8) (by rw [sizeFp12]; kernel_rfl) k8
        exact Rg.op_value (o := ⟨some 81, Op.move (Operand.tmp 8), _, _, _, _⟩) (x := .int .i64 (i : Nat)) rfl hw (by clear hA HS hN hO hE hT hH; simp only [execOp]; go_simp) ⟨_, rfl, (fun h => by cases h), (Rg.cond_t hP).symm, hI, fun _ _ _ _ h => h⟩
    · intro ll bb w' hs hlf hN hO hf hI hA
      clear hi'
      have qg : bb.tmps[75]? = some (cond true (.bool (false || false)) undef) := hf.tmp (k := 6) rfl (by rw [ha]; decide) (hA 6 (by kernel_rfl))
      cases hP : (true && ((false || false) == false)) with
      | false => exact Rg.op_none (o := ⟨some 82, _, _, _, _, _⟩) rfl (Rg.unwanted_c (g := 6) rfl rfl qg hP) ⟨_, rfl, (fun h => by cases h), Rg.cond_f hP, hI, fun _ _ _ _ h => h⟩
      | true =>
        have hw := Rg.wanted_c (ops := (Rg.opsOf Try.f3 12)) (o := (Rg.opsOf Try.f3 12)[13]'(by rw [sizeFp12]; decide)) (g := 6) rfl rfl qg hP
        have g0 := Rg.pc_r hP
        have q80 : bb.tmps[80]? = some (.slice (some ⟨G, 0, none⟩) m kR) := hf.tmp (k := 11) rfl (by rw [ha]; decide) (Eq.trans (hA 11 (by kernel_rfl)) (Rg.cond_t hP))
        have q81 : bb.tmps[81]? = some (.int .i64 (i : Nat)) := hf.tmp (k := 12) rfl (by rw [ha]; decide) (Eq.trans (hA 12 (by kernel_rfl)) (Rg.cond_t hP))
        have hi9 : ((i : Nat) : Int) < (m : Int) := by omega
        exact Rg.op_value (o := ⟨some 82, Op.indexAddr 25 (Operand.tmp 80) (Operand.tmp 81), _, _, _, _⟩) (x := .pointer (some ⟨G, i, none⟩)) rfl hw (by clear hA HS hN hO hE hT hH; simp only [execOp]; go_simp) ⟨_, rfl, (fun h => by cases h), (Rg.cond_t hP).symm, hI, fun _ _ _ _ h => h⟩
    · intro ll bb w' hs hlf hN hO hf hI hA
      clear hi'
      have qg : bb.tmps[75]? = some (cond true (.bool (false || false)) undef) := hf.tmp (k := 6) rfl (by rw [ha]; decide) (hA 6 (by kernel_rfl))
      cases hP : (true && ((false || false) == false)) with
      | false => exact Rg.op_none (o := ⟨some 83, _, _, _, _, _⟩) rfl (Rg.unwanted_c (g := 6) rfl rfl qg hP) ⟨_, rfl, (fun h => by cases h), Rg.cond_f hP, hI, fun _ _ _ _ h => h⟩
      | true =>
        have hw := Rg.wanted_c (ops := (Rg.opsOf Try.f3 12)) (o := (Rg.opsOf Try.f3 12)[14]'(by rw [sizeFp12]; decide)) (g := 6) rfl rfl qg hP
        have g0 := Rg.pc_r hP
        have q82 : bb.tmps[82]? = some (.pointer (some ⟨G, i, none⟩)) := hf.tmp (k := 13) rfl (by rw [ha]; decide) (Eq.trans (hA 13 (by kernel_rfl)) (Rg.cond_t hP))
        have e5 := (hI.cell (p := ⟨G, i, none⟩) hGl).trans hc
        exact Rg.op_value (o := ⟨some 83, Op.load 2 (Operand.tmp 82), _, _, _, _⟩) (x := .int .i64 z) rfl hw (by clear hA HS hN hO hE hT hH; simp only [execOp]; go_simp) ⟨_, rfl, (fun h => by cases h), (Rg.cond_t hP).symm, hI, fun _ _ _ _ h => h⟩
    · intro ll bb w' hs hlf hN hO hf hI hA
      clear hi'
      have qg : bb.tmps[75]? = some (cond true (.bool (false || false)) undef) := hf.tmp (k := 6) rfl (by rw [ha]; decide) (hA 6 (by kernel_rfl))
      cases hP : (true && ((false || false) == false)) with
      | false => exact Rg.op_none (o := ⟨some 84, _, _, _, _, _⟩) rfl (Rg.unwanted_c (g := 6) rfl rfl qg hP) ⟨_, rfl, (fun h => by cases h), Rg.cond_f hP, hI, fun _ _ _ _ h => h⟩
      | true =>
        have hw := Rg.wanted_c (ops := (Rg.opsOf Try.f3 12)) (o := (Rg.opsOf Try.f3 12)[15]'(by rw [sizeFp12]; decide)) (g := 6) rfl rfl qg hP
        have g0 := Rg.pc_r hP
        have q83 : bb.tmps[83]? = some (.int .i64 z) := hf.tmp (k := 14) rfl (by rw [ha]; decide) (Eq.trans (hA 14 (by kernel_rfl)) (Rg.cond_t hP))
        obtain ⟨ad, c, b9, h1, h2⟩ := hA 10 (by kernel_rfl)
        have q79 : bb.tmps[79]? = some (.slice ad TL.length c) := hf.tmp (k := 10) rfl (by rw [ha]; decide) h1
        refine Rg.op_call (o := ⟨some 84, Op.call { callee := Callee.value (Operand.func 14), args := #[(Operand.tmp 79), (Operand.tmp 83)], argTypes := _ }, _, _, _, _⟩) rfl hw (by clear hA HS hN hO hE hT hH h1 h2; simp only [execOp, resolve]; go_simp) (hH ad c b9 w' h2) ?_
        rintro e w2 ⟨rfl, rfl⟩
        exact ⟨_, rfl, _, rfl, (fun h => by cases h), (Rg.cond_t hP).symm, hI, fun _ _ _ _ h => h⟩
    · intro ll bb w' hs hlf hN hO hf hI hA
      clear hi'
      have qg : bb.tmps[75]? = some (cond true (.bool (false || false)) undef) := hf.tmp (k := 6) rfl (by rw [ha]; decide) (hA 6 (by kernel_rfl))
      cases hP : (true && ((false || false) == false)) with
      | false => exact Rg.op_none (o := ⟨some 85, _, _, _, _, _⟩) rfl (Rg.unwanted_c (g := 6) rfl rfl qg hP) ⟨_, rfl, (fun h => by cases h), Rg.cond_f hP, hI, fun _ _ _ _ h => h⟩
      | true =>
        have hw := Rg.wanted_c (ops := (Rg.opsOf Try.f3 12)) (o := (Rg.opsOf Try.f3 12)[16]'(by rw [sizeFp12]; decide)) (g := 6) rfl rfl qg hP
        have g0 := Rg.pc_r hP
        have q84 : bb.tmps[84]? = some (.bool true) := hf.tmp (k := 15) rfl (by rw [ha]; decide) (Eq.trans (hA 15 (by kernel_rfl)) (Rg.cond_t hP))
        exact Rg.op_value (o := ⟨some 85, Op.unOp UnOp.not 4 (Operand.tmp 84), _, _, _, _⟩) (x := .bool (!true)) rfl hw (by clear hA HS hN hO hE hT hH; simp only [execOp]; go_simp) ⟨_, rfl, (fun h => by cases h), (Rg.cond_t hP).symm, hI, fun _ _ _ _ h => h⟩
    · intro ll bb w' hs hlf hN hO hf hI hA
      clear hi'
      have q75 : bb.tmps[75]? = some _ := hf.tmp (k := 6) rfl (by rw [ha]; decide) (hA 6 (by kernel_rfl))
      cases hC : (false || false) with
      | false =>
        have hB : (true && ((false || false) == false)) = true := by rw [hC]; rfl
        have q85 : bb.tmps[85]? = some (.bool (!true)) := hf.tmp (k := 16) rfl (by rw [ha]; decide) (Eq.trans (hA 16 (by kernel_rfl)) (Rg.cond_t hB))
        have hval : ((.bool ((false || false) || (!true)) : Value)) = .bool (!true) := by rw [hC]; rfl
        exact Rg.op_value (o := ⟨some 86, Op.pick (Operand.tmp 75) (Operand.const (Value.bool true)) (Operand.tmp 85), _, _, _, _⟩) (x := .bool (!true)) rfl rfl (by rw [hC] at q75; clear hA HS hN hO hE hT hH hval; simp only [execOp]; go_simp) ⟨_, rfl, (fun h => by cases h), (by show ((.bool (!true) : Value)) = _; first | exact hval.symm | rfl), hI, fun _ _ _ _ h => h⟩
      | true =>
        have hval : ((.bool ((false || false) || (!true)) : Value)) = .bool true := by rw [hC]; rfl
        exact Rg.op_value (o := ⟨some 86, Op.pick (Operand.tmp 75) (Operand.const (Value.bool true)) (Operand.tmp 85), _, _, _, _⟩) (x := .bool true) rfl rfl (by rw [hC] at q75; clear hA HS hN hO hE hT hH hval; simp only [execOp]; go_simp) ⟨_, rfl, (fun h => by cases h), (by show ((.bool true : Value)) = _; first | exact hval.symm | rfl), hI, fun _ _ _ _ h => h⟩
theorem dFp12_0 : Rg.dstAt (Rg.opsOf Try.f3 12) 0 = some 69 := by kernel_rfl
theorem dFp12_1 : Rg.dstAt (Rg.opsOf Try.f3 12) 1 = some 70 := by kernel_rfl
theorem dFp12_2 : Rg.dstAt (Rg.opsOf Try.f3 12) 2 = some 71 := by kernel_rfl
theorem dFp12_3 : Rg.dstAt (Rg.opsOf Try.f3 12) 3 = some 72 := by kernel_rfl
theorem dFp12_4 : Rg.dstAt (Rg.opsOf Try.f3 12) 4 = some 73 := by kernel_rfl
theorem dFp12_5 : Rg.dstAt (Rg.opsOf Try.f3 12) 5 = some 74 := by kernel_rfl
theorem dFp12_6 : Rg.dstAt (Rg.opsOf Try.f3 12) 6 = some 75 := by kernel_rfl
theorem dFp12_7 : Rg.dstAt (Rg.opsOf Try.f3 12) 7 = some 76 := by kernel_rfl
theorem dFp12_8 : Rg.dstAt (Rg.opsOf Try.f3 12) 8 = some 77 := by kernel_rfl
theorem dFp12_9 : Rg.dstAt (Rg.opsOf Try.f3 12) 9 = some 78 := by kernel_rfl
theorem dFp12_10 : Rg.dstAt (Rg.opsOf Try.f3 12) 10 = some 79 := by kernel_rfl
theorem dFp12_11 : Rg.dstAt (Rg.opsOf Try.f3 12) 11 = some 80 := by kernel_rfl
theorem dFp12_12 : Rg.dstAt (Rg.opsOf Try.f3 12) 12 = some 81 := by kernel_rfl
theorem dFp12_13 : Rg.dstAt (Rg.opsOf Try.f3 12) 13 = some 82 := by kernel_rfl
theorem dFp12_14 : Rg.dstAt (Rg.opsOf Try.f3 12) 14 = some 83 := by kernel_rfl
theorem dFp12_15 : Rg.dstAt (Rg.opsOf Try.f3 12) 15 = some 84 := by kernel_rfl
theorem dFp12_16 : Rg.dstAt (Rg.opsOf Try.f3 12) 16 = some 85 := by kernel_rfl
theorem dFp12_17 : Rg.dstAt (Rg.opsOf Try.f3 12) 17 = some 86 := by kernel_rfl
theorem layFp12 {a b : Act} (hf : Rg.Fr (Rg.opsOf Try.f3 12) a b) : b = ((((((((((((((((((a.put (some 69) (Rg.out (Rg.opsOf Try.f3 12) b 0)).put (some 70) (Rg.out (Rg.opsOf Try.f3 12) b 1)).put (some 71) (Rg.out (Rg.opsOf Try.f3 12) b 2)).put (some 72) (Rg.out (Rg.opsOf Try.f3 12) b 3)).put (some 73) (Rg.out (Rg.opsOf Try.f3 12) b 4)).put (some 74) (Rg.out (Rg.opsOf Try.f3 12) b 5)).put (some 75) (Rg.out (Rg.opsOf Try.f3 12) b 6)).put (some 76) (Rg.out (Rg.opsOf Try.f3 12) b 7)).put (some 77) (Rg.out (Rg.opsOf Try.f3 12) b 8)).put (some 78) (Rg.out (Rg.opsOf Try.f3 12) b 9)).put (some 79) (Rg.out (Rg.opsOf Try.f3 12) b 10)).put (some 80) (Rg.out (Rg.opsOf Try.f3 12) b 11)).put (some 81) (Rg.out (Rg.opsOf Try.f3 12) b 12)).put (some 82) (Rg.out (Rg.opsOf Try.f3 12) b 13)).put (some 83) (Rg.out (Rg.opsOf Try.f3 12) b 14)).put (some 84) (Rg.out (Rg.opsOf Try.f3 12) b 15)).put (some 85) (Rg.out (Rg.opsOf Try.f3 12) b 16)).put (some 86) (Rg.out (Rg.opsOf Try.f3 12) b 17)) := by
  have h := hf.chain
  rw [sizeFp12, show List.range 18 = [0, 1, 2, 3, 4, 5, 6, 7, 8, 9, 10, 11, 12, 13, 14, 15, 16, 17] from by decide] at h
  simp only [List.foldl_cons, List.foldl_nil, dFp12_0, dFp12_1, dFp12_2, dFp12_3, dFp12_4, dFp12_5, dFp12_6, dFp12_7, dFp12_8, dFp12_9, dFp12_10, dFp12_11, dFp12_12, dFp12_13, dFp12_14, dFp12_15, dFp12_16, dFp12_17] at h
  exact h
end Go.Proofs.Ytgcpiinmcbdkmaa
