/-
  Merged: Pk21.
-/
import Derived.Test.YtgcpiinmcbdkmaaMg16
import Derived.Test.YtgcpiinmcbdkmaaMg13
import Derived.Test.YtgcpiinmcbdkmaaMg34
namespace Go.Proofs.Ytgcpiinmcbdkmaa
open Go.RowKit Va Bl
set_option linter.all false
def FLp8 (w9 : World) (B : Nat) (D : List Ut) (ad9 : Option Addr) (dl dc : Nat) (n : Nd) (na : Option Addr) (nc : Nat) (t9 c9 : Int) (R : List Int) (i9 : Nat) (v : Value) (w : World) : Prop :=
  match i9 with
  | 0 => v = .slice ad9 dl dc
  | 1 => ∃ G1, v = .slice (some ⟨G1, 0, none⟩) D.length D.length ∧ URw w (.slice (some ⟨G1, 0, none⟩) D.length D.length) D
  | 2 => v = .agg #[.int .i64 n.p, .int .i64 n.g, .slice na n.ag.length nc]
  | 3 => ∃ G2, v = .agg #[.int .i64 n.p, .int .i64 n.g, .slice (some ⟨G2, 0, none⟩) n.ag.length n.ag.length] ∧ Out 1 csI w G2 n.ag.length n.ag n.ag.length
  | 4 => v = .int .i64 t9
  | 5 => v = .int .i64 c9
  | 6 => ∃ ad c, v = .slice ad R.length c ∧ w.ownsRow w9.heap.size 2 1 (.slice ad R.length c) R.length (intsV R)
  | 7 => ∃ ad c, v = .slice ad R.length c ∧ w.ownsRow w9.heap.size 2 1 (.slice ad R.length c) R.length (intsV R)
  | _ => True
theorem sizeLp8 : (Rg.opsOf Try.f5 8).size = 8 := by kernel_rfl
set_option maxRecDepth 20000 in
set_option maxHeartbeats 8000000 in
theorem regLp8 {Q : Exit → Act → World → Prop} {a : Act} {w9 : World} {B : Nat} {D : List Ut} {ad9 : Option Addr} {dl dc : Nat} {n : Nd} {na : Option Addr} {nc : Nat} {t9 c9 : Int} {R : List Int} (ha : a.tmps.size = 102)
    (k0 : a.tmps[0]? = some (.slice ad9 dl dc)) (k5 : a.tmps[5]? = some (.pointer (some ⟨B, 0, none⟩))) (k2 : a.tmps[2]? = some (.int .i64 t9)) (k3 : a.tmps[3]? = some (.int .i64 c9)) (hE : PB w9 B #[.int .i64 n.p, .int .i64 n.g, .slice na n.ag.length nc] 43)(hT : ∀ W, Below w9.heap.size w9 W → Calls Try.prog 21 #[.slice ad9 dl dc] W fun e W' => ∃ G, e = .returned (.slice (some ⟨G, 0, none⟩) D.length D.length) ∧ URw W' (.slice (some ⟨G, 0, none⟩) D.length D.length) D ∧ Below W.heap.size W W')(hU : ∀ W, Below w9.heap.size w9 W → Calls Try.prog 22 #[.agg #[.int .i64 n.p, .int .i64 n.g, .slice na n.ag.length nc]] W fun e W' => ∃ G, W.heap.size ≤ G ∧ G < W'.heap.size ∧ e = .returned (.agg #[.int .i64 n.p, .int .i64 n.g, .slice (some ⟨G, 0, none⟩) n.ag.length n.ag.length]) ∧ Out 1 csI W' G n.ag.length n.ag n.ag.length ∧ Below W.heap.size W W')(hSP : ∀ G1 G2 W, Below w9.heap.size w9 W → URw W (.slice (some ⟨G1, 0, none⟩) D.length D.length) D → Out 1 csI W G2 n.ag.length n.ag n.ag.length → Calls Try.prog 12 #[.slice (some ⟨G1, 0, none⟩) D.length D.length, .agg #[.int .i64 n.p, .int .i64 n.g, .slice (some ⟨G2, 0, none⟩) n.ag.length n.ag.length], .int .i64 t9, .int .i64 c9] W fun e W' => ∃ ad c, e = .returned (.slice ad R.length c) ∧ W'.ownsRow w9.heap.size 2 1 (.slice ad R.length c) R.length (intsV R) ∧ Below W.heap.size W W')
    (hend : ∀ b' w', Rg.Fr (Rg.opsOf Try.f5 8) a b' → Below w9.heap.size w9 w' → (∃ ad c, Rg.out (Rg.opsOf Try.f5 8) b' 7 = .slice ad R.length c ∧ w'.ownsRow w9.heap.size 2 1 (.slice ad R.length c) R.length (intsV R)) → Q .normal b' w') :
    (Code.region 8 (Rg.opsOf Try.f5 8) true).wp Try.prog Q a w9 := by
  refine Rg.region_set3 (by kernel_rfl) (fun _ w' => Below w9.heap.size w9 w') (FLp8 w9 B D ad9 dl dc n na nc t9 c9 R) (by rw [ha, sizeLp8]; kernel_rfl) (st_drew (Below.refl _ _)) ?_ ?_
  case refine_2 =>
    intro l b' w' hf hall hI hA
    rw [sizeLp8] at hA
    exact hend b' w' hf hI (hA 7 (by decide))
  case refine_1 =>
    clear hend
    have HS : ∀ {w w' : World}, Below w.heap.size w w' → ∀ k9 y9, FLp8 w9 B D ad9 dl dc n na nc t9 c9 R k9 y9 w → FLp8 w9 B D ad9 dl dc n na nc t9 c9 R k9 y9 w' := by
      intro w w' hb k9 y9 h
      rcases (show k9 = 0 ∨ k9 = 1 ∨ k9 = 2 ∨ k9 = 3 ∨ k9 = 4 ∨ k9 = 5 ∨ k9 = 6 ∨ k9 = 7 ∨ 8 ≤ k9 by omega) with rfl | rfl | rfl | rfl | rfl | rfl | rfl | rfl | hk9
      · exact h
      · obtain ⟨G1, e9, hO1⟩ := h
        exact ⟨_, e9, hO1.below hb⟩
      · exact h
      · obtain ⟨G2, e9, hO2⟩ := h
        exact ⟨_, e9, hO2.below hb⟩
      · exact h
      · exact h
      · obtain ⟨ad, c, e9, hB1⟩ := h
        exact ⟨_, _, e9, ownW_below hB1 hb⟩
      · obtain ⟨ad, c, e9, hB1⟩ := h
        exact ⟨_, _, e9, ownW_below hB1 hb⟩
      · unfold FLp8
        split
        · omega
        · omega
        · omega
        · omega
        · omega
        · omega
        · omega
        · omega
        · trivial
    intro i' hi'
    rw [sizeLp8] at hi'
    rcases (show i' = 0 ∨ i' = 1 ∨ i' = 2 ∨ i' = 3 ∨ i' = 4 ∨ i' = 5 ∨ i' = 6 ∨ i' = 7 by omega) with rfl | rfl | rfl | rfl | rfl | rfl | rfl | rfl
    · intro ll bb w' hs hlf hN hO hf hI hA
      clear hi'
      have q0 := hf.kept (s := 0) (by rw [sizeLp8]; kernel_rfl) k0
      exact Rg.op_value (o := ⟨some 28, Op.move (Operand.tmp 0), _, _, _, _⟩) (x := .slice ad9 dl dc) rfl rfl (by clear hA HS hN hO hE hT hU hSP; simp only [execOp]; go_simp) ⟨_, rfl, (fun h => by cases h), rfl, hI, fun _ _ _ _ h => h⟩
    · intro ll bb w' hs hlf hN hO hf hI hA
      clear hi'
      have q28 : bb.tmps[28]? = some _ := hf.tmp (k := 0) rfl (by rw [ha]; decide) (hA 0 (by kernel_rfl))
      refine Rg.op_call (o := ⟨some 29, Op.call { callee := Callee.value (Operand.func 21), args := #[(Operand.tmp 28)], argTypes := _ }, _, _, _, _⟩) rfl rfl (by clear hA HS hN hO hE hT hU hSP; simp only [execOp, resolve]; go_simp) (hT w' hI) ?_
      rintro e w2 ⟨G, rfl, h3, hb2⟩
      exact ⟨_, rfl, _, rfl, (fun h => by cases h), ⟨G, rfl, h3⟩, onto hI hb2, fun k9 y9 _ _ h => HS hb2 k9 y9 h⟩
    · intro ll bb w' hs hlf hN hO hf hI hA
      clear hi'
      have q5 := hf.kept (s := 5) (by rw [sizeLp8]; kernel_rfl) k5
      obtain ⟨d0, d1, d2⟩ := (hE.below hI).three
      exact Rg.op_value (o := ⟨some 30, Op.load 43 (Operand.tmp 5), _, _, _, _⟩) (x := .agg #[.int .i64 n.p, .int .i64 n.g, .slice na n.ag.length nc]) rfl rfl (by clear hA HS hN hO hE hT hU hSP; simp only [execOp]; go_simp) ⟨_, rfl, (fun h => by cases h), rfl, hI, fun _ _ _ _ h => h⟩
    · intro ll bb w' hs hlf hN hO hf hI hA
      clear hi'
      have q30 : bb.tmps[30]? = some _ := hf.tmp (k := 2) rfl (by rw [ha]; decide) (hA 2 (by kernel_rfl))
      refine Rg.op_call (o := ⟨some 31, Op.call { callee := Callee.value (Operand.func 22), args := #[(Operand.tmp 30)], argTypes := _ }, _, _, _, _⟩) rfl rfl (by clear hA HS hN hO hE hT hU hSP; simp only [execOp, resolve]; go_simp) (hU w' hI) ?_
      rintro e w2 ⟨G, h1, h2, rfl, h3, hb2⟩
      exact ⟨_, rfl, _, rfl, (fun h => by cases h), ⟨G, rfl, h3⟩, onto hI hb2, fun k9 y9 _ _ h => HS hb2 k9 y9 h⟩
    · intro ll bb w' hs hlf hN hO hf hI hA
      clear hi'
      have q2 := hf.kept (s := 2) (by rw [sizeLp8]; kernel_rfl) k2
      exact Rg.op_value (o := ⟨some 32, Op.move (Operand.tmp 2), _, _, _, _⟩) (x := .int .i64 t9) rfl rfl (by clear hA HS hN hO hE hT hU hSP; simp only [execOp]; go_simp) ⟨_, rfl, (fun h => by cases h), rfl, hI, fun _ _ _ _ h => h⟩
    · intro ll bb w' hs hlf hN hO hf hI hA
      clear hi'
      have q3 := hf.kept (s := 3) (by rw [sizeLp8]; kernel_rfl) k3
      exact Rg.op_value (o := ⟨some 33, Op.move (Operand.tmp 3), _, _, _, _⟩) (x := .int .i64 c9) rfl rfl (by clear hA HS hN hO hE hT hU hSP; simp only [execOp]; go_simp) ⟨_, rfl, (fun h => by cases h), rfl, hI, fun _ _ _ _ h => h⟩
    · intro ll bb w' hs hlf hN hO hf hI hA
      clear hi'
      obtain ⟨G1, e1, hO1⟩ := hA 1 (by kernel_rfl)
      have q29 : bb.tmps[29]? = some _ := hf.tmp (k := 1) rfl (by rw [ha]; decide) e1
      obtain ⟨G2, e3, hO2⟩ := hA 3 (by kernel_rfl)
      have q31 : bb.tmps[31]? = some _ := hf.tmp (k := 3) rfl (by rw [ha]; decide) e3
      have q32 : bb.tmps[32]? = some _ := hf.tmp (k := 4) rfl (by rw [ha]; decide) (hA 4 (by kernel_rfl))
      have q33 : bb.tmps[33]? = some _ := hf.tmp (k := 5) rfl (by rw [ha]; decide) (hA 5 (by kernel_rfl))
      refine Rg.op_call (o := ⟨some 34, Op.call { callee := Callee.value (Operand.func 12), args := #[(Operand.tmp 29), (Operand.tmp 31), (Operand.tmp 32), (Operand.tmp 33)], argTypes := _ }, _, _, _, _⟩) rfl rfl (by clear hA HS hN hO hE hT hU hSP; simp only [execOp, resolve]; go_simp) (hSP G1 G2 w' hI hO1 hO2) ?_
      rintro e w2 ⟨ad, c, rfl, hB, hb2⟩
      exact ⟨_, rfl, _, rfl, (fun h => by cases h), ⟨ad, c, rfl, hB⟩, onto hI hb2, fun k9 y9 _ _ h => HS hb2 k9 y9 h⟩
    · intro ll bb w' hs hlf hN hO hf hI hA
      clear hi'
      obtain ⟨ad, c, e6, hB1⟩ := hA 6 (by kernel_rfl)
      have q34 : bb.tmps[34]? = some _ := hf.tmp (k := 6) rfl (by rw [ha]; decide) e6
      exact Rg.op_value (o := ⟨some 10, Op.assign (Operand.tmp 34), _, _, _, _⟩) (x := .slice ad R.length c) rfl rfl (by clear hA HS hN hO hE hT hU hSP; simp only [execOp]; go_simp) ⟨_, rfl, (fun h => by cases h), ⟨ad, c, rfl, hB1⟩, hI, fun _ _ _ _ h => h⟩
theorem dLp8_0 : Rg.dstAt (Rg.opsOf Try.f5 8) 0 = some 28 := by kernel_rfl
theorem dLp8_1 : Rg.dstAt (Rg.opsOf Try.f5 8) 1 = some 29 := by kernel_rfl
theorem dLp8_2 : Rg.dstAt (Rg.opsOf Try.f5 8) 2 = some 30 := by kernel_rfl
theorem dLp8_3 : Rg.dstAt (Rg.opsOf Try.f5 8) 3 = some 31 := by kernel_rfl
theorem dLp8_4 : Rg.dstAt (Rg.opsOf Try.f5 8) 4 = some 32 := by kernel_rfl
theorem dLp8_5 : Rg.dstAt (Rg.opsOf Try.f5 8) 5 = some 33 := by kernel_rfl
theorem dLp8_6 : Rg.dstAt (Rg.opsOf Try.f5 8) 6 = some 34 := by kernel_rfl
theorem dLp8_7 : Rg.dstAt (Rg.opsOf Try.f5 8) 7 = some 10 := by kernel_rfl
theorem layLp8 {a b : Act} (hf : Rg.Fr (Rg.opsOf Try.f5 8) a b) : b = ((((((((a.put (some 28) (Rg.out (Rg.opsOf Try.f5 8) b 0)).put (some 29) (Rg.out (Rg.opsOf Try.f5 8) b 1)).put (some 30) (Rg.out (Rg.opsOf Try.f5 8) b 2)).put (some 31) (Rg.out (Rg.opsOf Try.f5 8) b 3)).put (some 32) (Rg.out (Rg.opsOf Try.f5 8) b 4)).put (some 33) (Rg.out (Rg.opsOf Try.f5 8) b 5)).put (some 34) (Rg.out (Rg.opsOf Try.f5 8) b 6)).put (some 10) (Rg.out (Rg.opsOf Try.f5 8) b 7)) := by
  have h := hf.chain
  rw [sizeLp8, show List.range 8 = [0, 1, 2, 3, 4, 5, 6, 7] from by decide] at h
  simp only [List.foldl_cons, List.foldl_nil, dLp8_0, dLp8_1, dLp8_2, dLp8_3, dLp8_4, dLp8_5, dLp8_6, dLp8_7] at h
  exact h
def FLp16 (w9 : World) (B D9 H2 : Nat) (n : Nd) (na : Option Addr) (nc : Nat) (i9 : Nat) (v : Value) (w : World) : Prop :=
  match i9 with
  | 0 => v = .agg #[.int .i64 n.p, .int .i64 n.g, .slice (some ⟨H2, 0, none⟩) n.ag.length n.ag.length]
  | 1 => v = .agg #[.int .i64 n.p, .int .i64 n.g, .slice na n.ag.length nc]
  | 2 => ∃ G2, v = .agg #[.int .i64 n.p, .int .i64 n.g, .slice (some ⟨G2, 0, none⟩) n.ag.length n.ag.length] ∧ Out 1 csI w G2 n.ag.length n.ag n.ag.length
  | 3 => v = .bool true
  | 4 => v = .bool false
  | _ => True
theorem sizeLp16 : (Rg.opsOf Try.f5 16).size = 5 := by kernel_rfl
set_option maxRecDepth 20000 in
set_option maxHeartbeats 8000000 in
theorem regLp16 {Q : Exit → Act → World → Prop} {a : Act} {w9 : World} {B D9 H2 : Nat} {n : Nd} {na : Option Addr} {nc : Nat} (ha : a.tmps.size = 102)
    (k5 : a.tmps[5]? = some (.pointer (some ⟨B, 0, none⟩))) (k12 : a.tmps[12]? = some (.pointer (some ⟨D9, 0, none⟩))) (hE : PB w9 B #[.int .i64 n.p, .int .i64 n.g, .slice na n.ag.length nc] 43)(hZ : PB w9 D9 #[.int .i64 n.p, .int .i64 n.g, .slice (some ⟨H2, 0, none⟩) n.ag.length n.ag.length] 27)(hU : ∀ W, Below w9.heap.size w9 W → Calls Try.prog 22 #[.agg #[.int .i64 n.p, .int .i64 n.g, .slice na n.ag.length nc]] W fun e W' => ∃ G, W.heap.size ≤ G ∧ G < W'.heap.size ∧ e = .returned (.agg #[.int .i64 n.p, .int .i64 n.g, .slice (some ⟨G, 0, none⟩) n.ag.length n.ag.length]) ∧ Out 1 csI W' G n.ag.length n.ag n.ag.length ∧ Below W.heap.size W W')(hEQ : ∀ G2 W, Below w9.heap.size w9 W → Out 1 csI W G2 n.ag.length n.ag n.ag.length → Calls Try.prog 25 #[.agg #[.int .i64 n.p, .int .i64 n.g, .slice (some ⟨H2, 0, none⟩) n.ag.length n.ag.length], .agg #[.int .i64 n.p, .int .i64 n.g, .slice (some ⟨G2, 0, none⟩) n.ag.length n.ag.length]] W fun e W' => e = .returned (.bool true) ∧ Below W.heap.size W W')
    (hend : ∀ b' w', Rg.Fr (Rg.opsOf Try.f5 16) a b' → Below w9.heap.size w9 w' → Rg.out (Rg.opsOf Try.f5 16) b' 4 = .bool false → Q .normal b' w') :
    (Code.region 16 (Rg.opsOf Try.f5 16) true).wp Try.prog Q a w9 := by
  refine Rg.region_set3 (by kernel_rfl) (fun _ w' => Below w9.heap.size w9 w') (FLp16 w9 B D9 H2 n na nc) (by rw [ha, sizeLp16]; kernel_rfl) (st_drew (Below.refl _ _)) ?_ ?_
  case refine_2 =>
    intro l b' w' hf hall hI hA
    rw [sizeLp16] at hA
    exact hend b' w' hf hI (hA 4 (by decide))
  case refine_1 =>
    clear hend
    have HS : ∀ {w w' : World}, Below w.heap.size w w' → ∀ k9 y9, FLp16 w9 B D9 H2 n na nc k9 y9 w → FLp16 w9 B D9 H2 n na nc k9 y9 w' := by
      intro w w' hb k9 y9 h
      rcases (show k9 = 0 ∨ k9 = 1 ∨ k9 = 2 ∨ k9 = 3 ∨ k9 = 4 ∨ 5 ≤ k9 by omega) with rfl | rfl | rfl | rfl | rfl | hk9
      · exact h
      · exact h
      · obtain ⟨G2, e9, hO2⟩ := h
        exact ⟨_, e9, hO2.below hb⟩
      · exact h
      · exact h
      · unfold FLp16
        split
        · omega
        · omega
        · omega
        · omega
        · omega
        · trivial
    intro i' hi'
    rw [sizeLp16] at hi'
    rcases (show i' = 0 ∨ i' = 1 ∨ i' = 2 ∨ i' = 3 ∨ i' = 4 by omega) with rfl | rfl | rfl | rfl | rfl
    · intro ll bb w' hs hlf hN hO hf hI hA
      clear hi'
      have q12 := hf.kept (s := 12) (by rw [sizeLp16]; kernel_rfl) k12
      obtain ⟨c0, c1, c2⟩ := (hZ.below hI).three
      exact Rg.op_value (o := ⟨some 53, Op.load 27 (Operand.tmp 12), _, _, _, _⟩) (x := .agg #[.int .i64 n.p, .int .i64 n.g, .slice (some ⟨H2, 0, none⟩) n.ag.length n.ag.length]) rfl rfl (by clear hA HS hN hO hE hZ hU hEQ; simp only [execOp]; go_simp) ⟨_, rfl, (fun h => by cases h), rfl, hI, fun _ _ _ _ h => h⟩
    · intro ll bb w' hs hlf hN hO hf hI hA
      clear hi'
      have q5 := hf.kept (s := 5) (by rw [sizeLp16]; kernel_rfl) k5
      obtain ⟨d0, d1, d2⟩ := (hE.below hI).three
      exact Rg.op_value (o := ⟨some 54, Op.load 43 (Operand.tmp 5), _, _, _, _⟩) (x := .agg #[.int .i64 n.p, .int .i64 n.g, .slice na n.ag.length nc]) rfl rfl (by clear hA HS hN hO hE hZ hU hEQ; simp only [execOp]; go_simp) ⟨_, rfl, (fun h => by cases h), rfl, hI, fun _ _ _ _ h => h⟩
    · intro ll bb w' hs hlf hN hO hf hI hA
      clear hi'
      have q54 : bb.tmps[54]? = some _ := hf.tmp (k := 1) rfl (by rw [ha]; decide) (hA 1 (by kernel_rfl))
      refine Rg.op_call (o := ⟨some 55, Op.call { callee := Callee.value (Operand.func 22), args := #[(Operand.tmp 54)], argTypes := _ }, _, _, _, _⟩) rfl rfl (by clear hA HS hN hO hE hZ hU hEQ; simp only [execOp, resolve]; go_simp) (hU w' hI) ?_
      rintro e w2 ⟨G, h1, h2, rfl, h3, hb2⟩
      exact ⟨_, rfl, _, rfl, (fun h => by cases h), ⟨G, rfl, h3⟩, onto hI hb2, fun k9 y9 _ _ h => HS hb2 k9 y9 h⟩
    · intro ll bb w' hs hlf hN hO hf hI hA
      clear hi'
      have q53 : bb.tmps[53]? = some _ := hf.tmp (k := 0) rfl (by rw [ha]; decide) (hA 0 (by kernel_rfl))
      obtain ⟨G2, e2, hO2⟩ := hA 2 (by kernel_rfl)
      have q55 : bb.tmps[55]? = some _ := hf.tmp (k := 2) rfl (by rw [ha]; decide) e2
      refine Rg.op_call (o := ⟨some 56, Op.call { callee := Callee.value (Operand.func 25), args := #[(Operand.tmp 53), (Operand.tmp 55)], argTypes := _ }, _, _, _, _⟩) rfl rfl (by clear hA HS hN hO hE hZ hU hEQ; simp only [execOp, resolve]; go_simp) (hEQ G2 w' hI hO2) ?_
      rintro e w2 ⟨rfl, hb2⟩
      exact ⟨_, rfl, _, rfl, (fun h => by cases h), rfl, onto hI hb2, fun k9 y9 _ _ h => HS hb2 k9 y9 h⟩
    · intro ll bb w' hs hlf hN hO hf hI hA
      clear hi'
      have q56 : bb.tmps[56]? = some _ := hf.tmp (k := 3) rfl (by rw [ha]; decide) (hA 3 (by kernel_rfl))
      exact Rg.op_value (o := ⟨some 57, Op.unOp UnOp.not 4 (Operand.tmp 56), _, _, _, _⟩) (x := .bool false) rfl rfl (by clear hA HS hN hO hE hZ hU hEQ; simp only [execOp]; go_simp) ⟨_, rfl, (fun h => by cases h), rfl, hI, fun _ _ _ _ h => h⟩
theorem dLp16_0 : Rg.dstAt (Rg.opsOf Try.f5 16) 0 = some 53 := by kernel_rfl
theorem dLp16_1 : Rg.dstAt (Rg.opsOf Try.f5 16) 1 = some 54 := by kernel_rfl
theorem dLp16_2 : Rg.dstAt (Rg.opsOf Try.f5 16) 2 = some 55 := by kernel_rfl
theorem dLp16_3 : Rg.dstAt (Rg.opsOf Try.f5 16) 3 = some 56 := by kernel_rfl
theorem dLp16_4 : Rg.dstAt (Rg.opsOf Try.f5 16) 4 = some 57 := by kernel_rfl
theorem layLp16 {a b : Act} (hf : Rg.Fr (Rg.opsOf Try.f5 16) a b) : b = (((((a.put (some 53) (Rg.out (Rg.opsOf Try.f5 16) b 0)).put (some 54) (Rg.out (Rg.opsOf Try.f5 16) b 1)).put (some 55) (Rg.out (Rg.opsOf Try.f5 16) b 2)).put (some 56) (Rg.out (Rg.opsOf Try.f5 16) b 3)).put (some 57) (Rg.out (Rg.opsOf Try.f5 16) b 4)) := by
  have h := hf.chain
  rw [sizeLp16, show List.range 5 = [0, 1, 2, 3, 4] from by decide] at h
  simp only [List.foldl_cons, List.foldl_nil, dLp16_0, dLp16_1, dLp16_2, dLp16_3, dLp16_4] at h
  exact h
def FLp31 (w9 : World) (B : Nat) (D : List Ut) (ad9 : Option Addr) (dl dc : Nat) (n : Nd) (na : Option Addr) (nc : Nat) (t9 c9 : Int) (R : List Int) (i9 : Nat) (v : Value) (w : World) : Prop :=
  match i9 with
  | 0 => v = .slice ad9 dl dc
  | 1 => ∃ G1, v = .slice (some ⟨G1, 0, none⟩) D.length D.length ∧ URw w (.slice (some ⟨G1, 0, none⟩) D.length D.length) D
  | 2 => v = .agg #[.int .i64 n.p, .int .i64 n.g, .slice na n.ag.length nc]
  | 3 => ∃ G2, v = .agg #[.int .i64 n.p, .int .i64 n.g, .slice (some ⟨G2, 0, none⟩) n.ag.length n.ag.length] ∧ Out 1 csI w G2 n.ag.length n.ag n.ag.length
  | 4 => v = .int .i64 t9
  | 5 => v = .int .i64 c9
  | 6 => ∃ ad c, v = .slice ad R.length c ∧ w.ownsRow w9.heap.size 2 1 (.slice ad R.length c) R.length (intsV R)
  | 7 => ∃ ad c, v = .slice ad R.length c ∧ w.ownsRow w9.heap.size 2 1 (.slice ad R.length c) R.length (intsV R)
  | _ => True
theorem sizeLp31 : (Rg.opsOf Try.f5 31).size = 8 := by kernel_rfl
set_option maxRecDepth 20000 in
set_option maxHeartbeats 8000000 in
theorem regLp31 {Q : Exit → Act → World → Prop} {a : Act} {w9 : World} {B : Nat} {D : List Ut} {ad9 : Option Addr} {dl dc : Nat} {n : Nd} {na : Option Addr} {nc : Nat} {t9 c9 : Int} {R : List Int} (ha : a.tmps.size = 102)
    (k0 : a.tmps[0]? = some (.slice ad9 dl dc)) (k5 : a.tmps[5]? = some (.pointer (some ⟨B, 0, none⟩))) (k2 : a.tmps[2]? = some (.int .i64 t9)) (k3 : a.tmps[3]? = some (.int .i64 c9)) (hE : PB w9 B #[.int .i64 n.p, .int .i64 n.g, .slice na n.ag.length nc] 43)(hT : ∀ W, Below w9.heap.size w9 W → Calls Try.prog 21 #[.slice ad9 dl dc] W fun e W' => ∃ G, e = .returned (.slice (some ⟨G, 0, none⟩) D.length D.length) ∧ URw W' (.slice (some ⟨G, 0, none⟩) D.length D.length) D ∧ Below W.heap.size W W')(hU : ∀ W, Below w9.heap.size w9 W → Calls Try.prog 22 #[.agg #[.int .i64 n.p, .int .i64 n.g, .slice na n.ag.length nc]] W fun e W' => ∃ G, W.heap.size ≤ G ∧ G < W'.heap.size ∧ e = .returned (.agg #[.int .i64 n.p, .int .i64 n.g, .slice (some ⟨G, 0, none⟩) n.ag.length n.ag.length]) ∧ Out 1 csI W' G n.ag.length n.ag n.ag.length ∧ Below W.heap.size W W')(hSP : ∀ G1 G2 W, Below w9.heap.size w9 W → URw W (.slice (some ⟨G1, 0, none⟩) D.length D.length) D → Out 1 csI W G2 n.ag.length n.ag n.ag.length → Calls Try.prog 10 #[.slice (some ⟨G1, 0, none⟩) D.length D.length, .agg #[.int .i64 n.p, .int .i64 n.g, .slice (some ⟨G2, 0, none⟩) n.ag.length n.ag.length], .int .i64 t9, .int .i64 c9] W fun e W' => ∃ ad c, e = .returned (.slice ad R.length c) ∧ W'.ownsRow w9.heap.size 2 1 (.slice ad R.length c) R.length (intsV R) ∧ Below W.heap.size W W')
    (hend : ∀ b' w', Rg.Fr (Rg.opsOf Try.f5 31) a b' → Below w9.heap.size w9 w' → (∃ ad c, Rg.out (Rg.opsOf Try.f5 31) b' 7 = .slice ad R.length c ∧ w'.ownsRow w9.heap.size 2 1 (.slice ad R.length c) R.length (intsV R)) → Q .normal b' w') :
    (Code.region 31 (Rg.opsOf Try.f5 31) true).wp Try.prog Q a w9 := by
  refine Rg.region_set3 (by kernel_rfl) (fun _ w' => Below w9.heap.size w9 w') (FLp31 w9 B D ad9 dl dc n na nc t9 c9 R) (by rw [ha, sizeLp31]; kernel_rfl) (st_drew (Below.refl _ _)) ?_ ?_
  case refine_2 =>
    intro l b' w' hf hall hI hA
    rw [sizeLp31] at hA
    exact hend b' w' hf hI (hA 7 (by decide))
  case refine_1 =>
    clear hend
    have HS : ∀ {w w' : World}, Below w.heap.size w w' → ∀ k9 y9, FLp31 w9 B D ad9 dl dc n na nc t9 c9 R k9 y9 w → FLp31 w9 B D ad9 dl dc n na nc t9 c9 R k9 y9 w' := by
      intro w w' hb k9 y9 h
      rcases (show k9 = 0 ∨ k9 = 1 ∨ k9 = 2 ∨ k9 = 3 ∨ k9 = 4 ∨ k9 = 5 ∨ k9 = 6 ∨ k9 = 7 ∨ 8 ≤ k9 by omega) with rfl | rfl | rfl | rfl | rfl | rfl | rfl | rfl | hk9
      · exact h
      · obtain ⟨G1, e9, hO1⟩ := h
        exact ⟨_, e9, hO1.below hb⟩
      · exact h
      · obtain ⟨G2, e9, hO2⟩ := h
        exact ⟨_, e9, hO2.below hb⟩
      · exact h
      · exact h
      · obtain ⟨ad, c, e9, hB1⟩ := h
        exact ⟨_, _, e9, ownW_below hB1 hb⟩
      · obtain ⟨ad, c, e9, hB1⟩ := h
        exact ⟨_, _, e9, ownW_below hB1 hb⟩
      · unfold FLp31
        split
        · omega
        · omega
        · omega
        · omega
        · omega
        · omega
        · omega
        · omega
        · trivial
    intro i' hi'
    rw [sizeLp31] at hi'
    rcases (show i' = 0 ∨ i' = 1 ∨ i' = 2 ∨ i' = 3 ∨ i' = 4 ∨ i' = 5 ∨ i' = 6 ∨ i' = 7 by omega) with rfl | rfl | rfl | rfl | rfl | rfl | rfl | rfl
    · intro ll bb w' hs hlf hN hO hf hI hA
      clear hi'
      have q0 := hf.kept (s := 0) (by rw [sizeLp31]; kernel_rfl) k0
      exact Rg.op_value (o := ⟨some 83, Op.move (Operand.tmp 0), _, _, _, _⟩) (x := .slice ad9 dl dc) rfl rfl (by clear hA HS hN hO hE hT hU hSP; simp only [execOp]; go_simp) ⟨_, rfl, (fun h => by cases h), rfl, hI, fun _ _ _ _ h => h⟩
    · intro ll bb w' hs hlf hN hO hf hI hA
      clear hi'
      have q83 : bb.tmps[83]? = some _ := hf.tmp (k := 0) rfl (by rw [ha]; decide) (hA 0 (by kernel_rfl))
      refine Rg.op_call (o := ⟨some 84, Op.call { callee := Callee.value (Operand.func 21), args := #[(Operand.tmp 83)], argTypes := _ }, _, _, _, _⟩) rfl rfl (by clear hA HS hN hO hE hT hU hSP; simp only [execOp, resolve]; go_simp) (hT w' hI) ?_
      rintro e w2 ⟨G, rfl, h3, hb2⟩
      exact ⟨_, rfl, _, rfl, (fun h => by cases h), ⟨G, rfl, h3⟩, onto hI hb2, fun k9 y9 _ _ h => HS hb2 k9 y9 h⟩
    · intro ll bb w' hs hlf hN hO hf hI hA
      clear hi'
      have q5 := hf.kept (s := 5) (by rw [sizeLp31]; kernel_rfl) k5
      obtain ⟨d0, d1, d2⟩ := (hE.below hI).three
      exact Rg.op_value (o := ⟨some 85, Op.load 43 (Operand.tmp 5), _, _, _, _⟩) (x := .agg #[.int .i64 n.p, .int .i64 n.g, .slice na n.ag.length nc]) rfl rfl (by clear hA HS hN hO hE hT hU hSP; simp only [execOp]; go_simp) ⟨_, rfl, (fun h => by cases h), rfl, hI, fun _ _ _ _ h => h⟩
    · intro ll bb w' hs hlf hN hO hf hI hA
      clear hi'
      have q85 : bb.tmps[85]? = some _ := hf.tmp (k := 2) rfl (by rw [ha]; decide) (hA 2 (by kernel_rfl))
      refine Rg.op_call (o := ⟨some 86, Op.call { callee := Callee.value (Operand.func 22), args := #[(Operand.tmp 85)], argTypes := _ }, _, _, _, _⟩) rfl rfl (by clear hA HS hN hO hE hT hU hSP; simp only [execOp, resolve]; go_simp) (hU w' hI) ?_
      rintro e w2 ⟨G, h1, h2, rfl, h3, hb2⟩
      exact ⟨_, rfl, _, rfl, (fun h => by cases h), ⟨G, rfl, h3⟩, onto hI hb2, fun k9 y9 _ _ h => HS hb2 k9 y9 h⟩
    · intro ll bb w' hs hlf hN hO hf hI hA
      clear hi'
      have q2 := hf.kept (s := 2) (by rw [sizeLp31]; kernel_rfl) k2
      exact Rg.op_value (o := ⟨some 87, Op.move (Operand.tmp 2), _, _, _, _⟩) (x := .int .i64 t9) rfl rfl (by clear hA HS hN hO hE hT hU hSP; simp only [execOp]; go_simp) ⟨_, rfl, (fun h => by cases h), rfl, hI, fun _ _ _ _ h => h⟩
    · intro ll bb w' hs hlf hN hO hf hI hA
      clear hi'
      have q3 := hf.kept (s := 3) (by rw [sizeLp31]; kernel_rfl) k3
      exact Rg.op_value (o := ⟨some 88, Op.move (Operand.tmp 3), _, _, _, _⟩) (x := .int .i64 c9) rfl rfl (by clear hA HS hN hO hE hT hU hSP; simp only [execOp]; go_simp) ⟨_, rfl, (fun h => by cases h), rfl, hI, fun _ _ _ _ h => h⟩
    · intro ll bb w' hs hlf hN hO hf hI hA
      clear hi'
      obtain ⟨G1, e1, hO1⟩ := hA 1 (by kernel_rfl)
      have q84 : bb.tmps[84]? = some _ := hf.tmp (k := 1) rfl (by rw [ha]; decide) e1
      obtain ⟨G2, e3, hO2⟩ := hA 3 (by kernel_rfl)
      have q86 : bb.tmps[86]? = some _ := hf.tmp (k := 3) rfl (by rw [ha]; decide) e3
      have q87 : bb.tmps[87]? = some _ := hf.tmp (k := 4) rfl (by rw [ha]; decide) (hA 4 (by kernel_rfl))
      have q88 : bb.tmps[88]? = some _ := hf.tmp (k := 5) rfl (by rw [ha]; decide) (hA 5 (by kernel_rfl))
      refine Rg.op_call (o := ⟨some 89, Op.call { callee := Callee.value (Operand.func 10), args := #[(Operand.tmp 84), (Operand.tmp 86), (Operand.tmp 87), (Operand.tmp 88)], argTypes := _ }, _, _, _, _⟩) rfl rfl (by clear hA HS hN hO hE hT hU hSP; simp only [execOp, resolve]; go_simp) (hSP G1 G2 w' hI hO1 hO2) ?_
      rintro e w2 ⟨ad, c, rfl, hB, hb2⟩
      exact ⟨_, rfl, _, rfl, (fun h => by cases h), ⟨ad, c, rfl, hB⟩, onto hI hb2, fun k9 y9 _ _ h => HS hb2 k9 y9 h⟩
    · intro ll bb w' hs hlf hN hO hf hI hA
      clear hi'
      obtain ⟨ad, c, e6, hB1⟩ := hA 6 (by kernel_rfl)
      have q89 : bb.tmps[89]? = some _ := hf.tmp (k := 6) rfl (by rw [ha]; decide) e6
      exact Rg.op_value (o := ⟨some 17, Op.assign (Operand.tmp 89), _, _, _, _⟩) (x := .slice ad R.length c) rfl rfl (by clear hA HS hN hO hE hT hU hSP; simp only [execOp]; go_simp) ⟨_, rfl, (fun h => by cases h), ⟨ad, c, rfl, hB1⟩, hI, fun _ _ _ _ h => h⟩
theorem dLp31_0 : Rg.dstAt (Rg.opsOf Try.f5 31) 0 = some 83 := by kernel_rfl
theorem dLp31_1 : Rg.dstAt (Rg.opsOf Try.f5 31) 1 = some 84 := by kernel_rfl
theorem dLp31_2 : Rg.dstAt (Rg.opsOf Try.f5 31) 2 = some 85 := by kernel_rfl
theorem dLp31_3 : Rg.dstAt (Rg.opsOf Try.f5 31) 3 = some 86 := by kernel_rfl
theorem dLp31_4 : Rg.dstAt (Rg.opsOf Try.f5 31) 4 = some 87 := by kernel_rfl
theorem dLp31_5 : Rg.dstAt (Rg.opsOf Try.f5 31) 5 = some 88 := by kernel_rfl
theorem dLp31_6 : Rg.dstAt (Rg.opsOf Try.f5 31) 6 = some 89 := by kernel_rfl
theorem dLp31_7 : Rg.dstAt (Rg.opsOf Try.f5 31) 7 = some 17 := by kernel_rfl
theorem layLp31 {a b : Act} (hf : Rg.Fr (Rg.opsOf Try.f5 31) a b) : b = ((((((((a.put (some 83) (Rg.out (Rg.opsOf Try.f5 31) b 0)).put (some 84) (Rg.out (Rg.opsOf Try.f5 31) b 1)).put (some 85) (Rg.out (Rg.opsOf Try.f5 31) b 2)).put (some 86) (Rg.out (Rg.opsOf Try.f5 31) b 3)).put (some 87) (Rg.out (Rg.opsOf Try.f5 31) b 4)).put (some 88) (Rg.out (Rg.opsOf Try.f5 31) b 5)).put (some 89) (Rg.out (Rg.opsOf Try.f5 31) b 6)).put (some 17) (Rg.out (Rg.opsOf Try.f5 31) b 7)) := by
  have h := hf.chain
  rw [sizeLp31, show List.range 8 = [0, 1, 2, 3, 4, 5, 6, 7] from by decide] at h
  simp only [List.foldl_cons, List.foldl_nil, dLp31_0, dLp31_1, dLp31_2, dLp31_3, dLp31_4, dLp31_5, dLp31_6, dLp31_7] at h
  exact h
end Go.Proofs.Ytgcpiinmcbdkmaa
