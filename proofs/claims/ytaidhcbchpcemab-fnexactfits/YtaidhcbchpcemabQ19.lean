/-
  The law on what fits: its regions that draw their order.
-/
import Derived.Test.YtaidhcbchpcemabQ17
import Derived.Test.YtaidhcbchpcemabQ18
import Derived.Test.YtaidhcbchpcemabQ5
import Derived.Test.YtaidhcbchpcemabRn
namespace Go.Proofs.Ytaidhcbchpcemab
open Go.RowKit Va Bl
set_option linter.all false

def FLf8 (w9 : World) (B C : Nat) (x : Ut) (n : Nd) (ta na : Option Addr) (tc nc : Nat) (tb : Bool) (i9 : Nat) (v : Value) (w : World) : Prop :=
  match i9 with
  | 0 => v = .agg #[.int .i64 x.id, .int .i64 x.grp, .slice ta x.ant.length tc, .int .i64 x.til, .int .i64 x.st, .int .i64 x.fr]
  | 1 => ∃ G1, v = .agg #[.int .i64 x.id, .int .i64 x.grp, .slice (some ⟨G1, 0, none⟩) x.ant.length x.ant.length, .int .i64 x.til, .int .i64 x.st, .int .i64 x.fr] ∧ Out 1 csI w G1 x.ant.length x.ant x.ant.length
  | 2 => v = .agg #[.int .i64 n.p, .int .i64 n.g, .slice na n.ag.length nc]
  | 3 => ∃ G2, v = .agg #[.int .i64 n.p, .int .i64 n.g, .slice (some ⟨G2, 0, none⟩) n.ag.length n.ag.length] ∧ Out 1 csI w G2 n.ag.length n.ag n.ag.length
  | 4 => v = .bool tb
  | 5 => v = .bool tb
  | _ => True
theorem sizeLf8 : (Rg.opsOf Try.f3 8).size = 6 := by kernel_rfl

set_option maxRecDepth 20000 in
set_option maxHeartbeats 8000000 in
theorem regLf8 {Q : Exit → Act → World → Prop} {a : Act} {w9 : World} {B C : Nat} {x : Ut} {n : Nd} {ta na : Option Addr} {tc nc : Nat} {tb : Bool} (ha : a.tmps.size = 45)
    (k2 : a.tmps[2]? = some (.pointer (some ⟨B, 0, none⟩))) (k3 : a.tmps[3]? = some (.pointer (some ⟨C, 0, none⟩))) (hX : PB w9 B #[.int .i64 x.id, .int .i64 x.grp, .slice ta x.ant.length tc, .int .i64 x.til, .int .i64 x.st, .int .i64 x.fr] 24)(hE : PB w9 C #[.int .i64 n.p, .int .i64 n.g, .slice na n.ag.length nc] 26)(hT : ∀ W, Below w9.heap.size w9 W → Calls Try.prog 10 #[.agg #[.int .i64 x.id, .int .i64 x.grp, .slice ta x.ant.length tc, .int .i64 x.til, .int .i64 x.st, .int .i64 x.fr]] W fun e W' => ∃ G, W.heap.size ≤ G ∧ G < W'.heap.size ∧ e = .returned (.agg #[.int .i64 x.id, .int .i64 x.grp, .slice (some ⟨G, 0, none⟩) x.ant.length x.ant.length, .int .i64 x.til, .int .i64 x.st, .int .i64 x.fr]) ∧ Out 1 csI W' G x.ant.length x.ant x.ant.length ∧ Below W.heap.size W W')(hU : ∀ W, Below w9.heap.size w9 W → Calls Try.prog 11 #[.agg #[.int .i64 n.p, .int .i64 n.g, .slice na n.ag.length nc]] W fun e W' => ∃ G, W.heap.size ≤ G ∧ G < W'.heap.size ∧ e = .returned (.agg #[.int .i64 n.p, .int .i64 n.g, .slice (some ⟨G, 0, none⟩) n.ag.length n.ag.length]) ∧ Out 1 csI W' G n.ag.length n.ag n.ag.length ∧ Below W.heap.size W W')(hSP : ∀ G1 G2 W, Out 1 csI W G1 x.ant.length x.ant x.ant.length → Out 1 csI W G2 n.ag.length n.ag n.ag.length → Calls Try.prog 9 #[.agg #[.int .i64 x.id, .int .i64 x.grp, .slice (some ⟨G1, 0, none⟩) x.ant.length x.ant.length, .int .i64 x.til, .int .i64 x.st, .int .i64 x.fr], .agg #[.int .i64 n.p, .int .i64 n.g, .slice (some ⟨G2, 0, none⟩) n.ag.length n.ag.length]] W fun e W' => e = .returned (.bool tb) ∧ Below W.heap.size W W')
    (hend : ∀ b' w', Rg.Fr (Rg.opsOf Try.f3 8) a b' → Below w9.heap.size w9 w' → Rg.out (Rg.opsOf Try.f3 8) b' 5 = .bool tb → Q .normal b' w') :
    (Code.region 8 (Rg.opsOf Try.f3 8) true).wp Try.prog Q a w9 := by
  refine Rg.region_set3 (by kernel_rfl) (fun _ w' => Below w9.heap.size w9 w') (FLf8 w9 B C x n ta na tc nc tb) (by rw [ha, sizeLf8]; kernel_rfl) (st_drew (Below.refl _ _)) ?_ ?_
  case refine_2 =>
    intro l b' w' hf hall hI hA
    rw [sizeLf8] at hA
    exact hend b' w' hf hI (hA 5 (by decide))
  case refine_1 =>
    clear hend
    have HS : ∀ {w w' : World}, Below w.heap.size w w' → ∀ k9 y9, FLf8 w9 B C x n ta na tc nc tb k9 y9 w → FLf8 w9 B C x n ta na tc nc tb k9 y9 w' := by
      intro w w' hb k9 y9 h
      rcases (show k9 = 0 ∨ k9 = 1 ∨ k9 = 2 ∨ k9 = 3 ∨ k9 = 4 ∨ k9 = 5 ∨ 6 ≤ k9 by omega) with rfl | rfl | rfl | rfl | rfl | rfl | hk9
      · exact h
      · obtain ⟨G1, e9, hO1⟩ := h
        exact ⟨_, e9, hO1.below hb⟩
      · exact h
      · obtain ⟨G2, e9, hO2⟩ := h
        exact ⟨_, e9, hO2.below hb⟩
      · exact h
      · exact h
      · unfold FLf8
        split
        · omega
        · omega
        · omega
        · omega
        · omega
        · omega
        · trivial
    intro i' hi'
    rw [sizeLf8] at hi'
    rcases (show i' = 0 ∨ i' = 1 ∨ i' = 2 ∨ i' = 3 ∨ i' = 4 ∨ i' = 5 by omega) with rfl | rfl | rfl | rfl | rfl | rfl
    · intro ll bb w' hs hlf hN hO hf hI hA
      clear hi'
      have q2 := hf.kept (s := 2) (by rw [sizeLf8]; kernel_rfl) k2
      obtain ⟨b0, b1, b2, b3, b4, b5⟩ := (hX.below hI).six
      exact Rg.op_value (o := ⟨some 20, Op.load 24 (Operand.tmp 2), _, _, _, _⟩) (x := .agg #[.int .i64 x.id, .int .i64 x.grp, .slice ta x.ant.length tc, .int .i64 x.til, .int .i64 x.st, .int .i64 x.fr]) rfl rfl (by clear hA HS hN hO hX hE hT hU hSP; simp only [execOp]; go_simp) ⟨_, rfl, (fun h => by cases h), rfl, hI, fun _ _ _ _ h => h⟩
    · intro ll bb w' hs hlf hN hO hf hI hA
      clear hi'
      have q20 : bb.tmps[20]? = some _ := hf.tmp (k := 0) rfl (by rw [ha]; decide) (hA 0 (by kernel_rfl))
      refine Rg.op_call (o := ⟨some 21, Op.call { callee := Callee.value (Operand.func 10), args := #[(Operand.tmp 20)], argTypes := _ }, _, _, _, _⟩) rfl rfl (by clear hA HS hN hO hX hE hT hU hSP; simp only [execOp, resolve]; go_simp) (hT w' hI) ?_
      rintro e w2 ⟨G, h1, h2, rfl, h3, hb2⟩
      exact ⟨_, rfl, _, rfl, (fun h => by cases h), ⟨G, rfl, h3⟩, onto hI hb2, fun k9 y9 _ _ h => HS hb2 k9 y9 h⟩
    · intro ll bb w' hs hlf hN hO hf hI hA
      clear hi'
      have q3 := hf.kept (s := 3) (by rw [sizeLf8]; kernel_rfl) k3
      obtain ⟨d0, d1, d2⟩ := (hE.below hI).three
      exact Rg.op_value (o := ⟨some 22, Op.load 26 (Operand.tmp 3), _, _, _, _⟩) (x := .agg #[.int .i64 n.p, .int .i64 n.g, .slice na n.ag.length nc]) rfl rfl (by clear hA HS hN hO hX hE hT hU hSP; simp only [execOp]; go_simp) ⟨_, rfl, (fun h => by cases h), rfl, hI, fun _ _ _ _ h => h⟩
    · intro ll bb w' hs hlf hN hO hf hI hA
      clear hi'
      have q22 : bb.tmps[22]? = some _ := hf.tmp (k := 2) rfl (by rw [ha]; decide) (hA 2 (by kernel_rfl))
      refine Rg.op_call (o := ⟨some 23, Op.call { callee := Callee.value (Operand.func 11), args := #[(Operand.tmp 22)], argTypes := _ }, _, _, _, _⟩) rfl rfl (by clear hA HS hN hO hX hE hT hU hSP; simp only [execOp, resolve]; go_simp) (hU w' hI) ?_
      rintro e w2 ⟨G, h1, h2, rfl, h3, hb2⟩
      exact ⟨_, rfl, _, rfl, (fun h => by cases h), ⟨G, rfl, h3⟩, onto hI hb2, fun k9 y9 _ _ h => HS hb2 k9 y9 h⟩
    · intro ll bb w' hs hlf hN hO hf hI hA
      clear hi'
      obtain ⟨G1, e1, hO1⟩ := hA 1 (by kernel_rfl)
      have q21 : bb.tmps[21]? = some _ := hf.tmp (k := 1) rfl (by rw [ha]; decide) e1
      obtain ⟨G2, e3, hO2⟩ := hA 3 (by kernel_rfl)
      have q23 : bb.tmps[23]? = some _ := hf.tmp (k := 3) rfl (by rw [ha]; decide) e3
      refine Rg.op_call (o := ⟨some 24, Op.call { callee := Callee.value (Operand.func 9), args := #[(Operand.tmp 21), (Operand.tmp 23)], argTypes := _ }, _, _, _, _⟩) rfl rfl (by clear hA HS hN hO hX hE hT hU hSP; simp only [execOp, resolve]; go_simp) (hSP G1 G2 w' hO1 hO2) ?_
      rintro e w2 ⟨rfl, hb2⟩
      exact ⟨_, rfl, _, rfl, (fun h => by cases h), rfl, onto hI hb2, fun k9 y9 _ _ h => HS hb2 k9 y9 h⟩
    · intro ll bb w' hs hlf hN hO hf hI hA
      clear hi'
      have q24 : bb.tmps[24]? = some _ := hf.tmp (k := 4) rfl (by rw [ha]; decide) (hA 4 (by kernel_rfl))
      exact Rg.op_value (o := ⟨some 6, Op.assign (Operand.tmp 24), _, _, _, _⟩) (x := .bool tb) rfl rfl (by clear hA HS hN hO hX hE hT hU hSP; simp only [execOp]; go_simp) ⟨_, rfl, (fun h => by cases h), rfl, hI, fun _ _ _ _ h => h⟩

theorem dLf8_0 : Rg.dstAt (Rg.opsOf Try.f3 8) 0 = some 20 := by kernel_rfl
theorem dLf8_1 : Rg.dstAt (Rg.opsOf Try.f3 8) 1 = some 21 := by kernel_rfl
theorem dLf8_2 : Rg.dstAt (Rg.opsOf Try.f3 8) 2 = some 22 := by kernel_rfl
theorem dLf8_3 : Rg.dstAt (Rg.opsOf Try.f3 8) 3 = some 23 := by kernel_rfl
theorem dLf8_4 : Rg.dstAt (Rg.opsOf Try.f3 8) 4 = some 24 := by kernel_rfl
theorem dLf8_5 : Rg.dstAt (Rg.opsOf Try.f3 8) 5 = some 6 := by kernel_rfl
theorem layLf8 {a b : Act} (hf : Rg.Fr (Rg.opsOf Try.f3 8) a b) : b = ((((((a.put (some 20) (Rg.out (Rg.opsOf Try.f3 8) b 0)).put (some 21) (Rg.out (Rg.opsOf Try.f3 8) b 1)).put (some 22) (Rg.out (Rg.opsOf Try.f3 8) b 2)).put (some 23) (Rg.out (Rg.opsOf Try.f3 8) b 3)).put (some 24) (Rg.out (Rg.opsOf Try.f3 8) b 4)).put (some 6) (Rg.out (Rg.opsOf Try.f3 8) b 5)) := by
  have h := hf.chain
  rw [sizeLf8, show List.range 6 = [0, 1, 2, 3, 4, 5] from by decide] at h
  simp only [List.foldl_cons, List.foldl_nil, dLf8_0, dLf8_1, dLf8_2, dLf8_3, dLf8_4, dLf8_5] at h
  exact h

def FLf14 (w9 : World) (B D H1 : Nat) (x : Ut) (ta : Option Addr) (tc : Nat) (i9 : Nat) (v : Value) (w : World) : Prop :=
  match i9 with
  | 0 => v = .agg #[.int .i64 x.id, .int .i64 x.grp, .slice (some ⟨H1, 0, none⟩) x.ant.length x.ant.length, .int .i64 x.til, .int .i64 x.st, .int .i64 x.fr]
  | 1 => v = .agg #[.int .i64 x.id, .int .i64 x.grp, .slice ta x.ant.length tc, .int .i64 x.til, .int .i64 x.st, .int .i64 x.fr]
  | 2 => ∃ G1, v = .agg #[.int .i64 x.id, .int .i64 x.grp, .slice (some ⟨G1, 0, none⟩) x.ant.length x.ant.length, .int .i64 x.til, .int .i64 x.st, .int .i64 x.fr] ∧ Out 1 csI w G1 x.ant.length x.ant x.ant.length
  | 3 => v = .bool true
  | 4 => v = .bool false
  | _ => True
theorem sizeLf14 : (Rg.opsOf Try.f3 14).size = 5 := by kernel_rfl

set_option maxRecDepth 20000 in
set_option maxHeartbeats 8000000 in
theorem regLf14 {Q : Exit → Act → World → Prop} {a : Act} {w9 : World} {B D H1 : Nat} {x : Ut} {ta : Option Addr} {tc : Nat} (ha : a.tmps.size = 45)
    (k2 : a.tmps[2]? = some (.pointer (some ⟨B, 0, none⟩))) (k7 : a.tmps[7]? = some (.pointer (some ⟨D, 0, none⟩))) (hX : PB w9 B #[.int .i64 x.id, .int .i64 x.grp, .slice ta x.ant.length tc, .int .i64 x.til, .int .i64 x.st, .int .i64 x.fr] 24)(hY : PB w9 D #[.int .i64 x.id, .int .i64 x.grp, .slice (some ⟨H1, 0, none⟩) x.ant.length x.ant.length, .int .i64 x.til, .int .i64 x.st, .int .i64 x.fr] 30) (hOo : Out 1 csI w9 H1 x.ant.length x.ant x.ant.length)(hT : ∀ W, Below w9.heap.size w9 W → Calls Try.prog 10 #[.agg #[.int .i64 x.id, .int .i64 x.grp, .slice ta x.ant.length tc, .int .i64 x.til, .int .i64 x.st, .int .i64 x.fr]] W fun e W' => ∃ G, W.heap.size ≤ G ∧ G < W'.heap.size ∧ e = .returned (.agg #[.int .i64 x.id, .int .i64 x.grp, .slice (some ⟨G, 0, none⟩) x.ant.length x.ant.length, .int .i64 x.til, .int .i64 x.st, .int .i64 x.fr]) ∧ Out 1 csI W' G x.ant.length x.ant x.ant.length ∧ Below W.heap.size W W')(hEQ : ∀ G1 W, Below w9.heap.size w9 W → Out 1 csI W G1 x.ant.length x.ant x.ant.length → Calls Try.prog 13 #[.agg #[.int .i64 x.id, .int .i64 x.grp, .slice (some ⟨H1, 0, none⟩) x.ant.length x.ant.length, .int .i64 x.til, .int .i64 x.st, .int .i64 x.fr], .agg #[.int .i64 x.id, .int .i64 x.grp, .slice (some ⟨G1, 0, none⟩) x.ant.length x.ant.length, .int .i64 x.til, .int .i64 x.st, .int .i64 x.fr]] W fun e W' => e = .returned (.bool true) ∧ Below W.heap.size W W')
    (hend : ∀ b' w', Rg.Fr (Rg.opsOf Try.f3 14) a b' → Below w9.heap.size w9 w' → Rg.out (Rg.opsOf Try.f3 14) b' 4 = .bool false → Q .normal b' w') :
    (Code.region 14 (Rg.opsOf Try.f3 14) true).wp Try.prog Q a w9 := by
  refine Rg.region_set3 (by kernel_rfl) (fun _ w' => Below w9.heap.size w9 w') (FLf14 w9 B D H1 x ta tc) (by rw [ha, sizeLf14]; kernel_rfl) (st_drew (Below.refl _ _)) ?_ ?_
  case refine_2 =>
    intro l b' w' hf hall hI hA
    rw [sizeLf14] at hA
    exact hend b' w' hf hI (hA 4 (by decide))
  case refine_1 =>
    clear hend
    have HS : ∀ {w w' : World}, Below w.heap.size w w' → ∀ k9 y9, FLf14 w9 B D H1 x ta tc k9 y9 w → FLf14 w9 B D H1 x ta tc k9 y9 w' := by
      intro w w' hb k9 y9 h
      rcases (show k9 = 0 ∨ k9 = 1 ∨ k9 = 2 ∨ k9 = 3 ∨ k9 = 4 ∨ 5 ≤ k9 by omega) with rfl | rfl | rfl | rfl | rfl | hk9
      · exact h
      · exact h
      · obtain ⟨G1, e9, hO1⟩ := h
        exact ⟨_, e9, hO1.below hb⟩
      · exact h
      · exact h
      · unfold FLf14
        split
        · omega
        · omega
        · omega
        · omega
        · omega
        · trivial
    intro i' hi'
    rw [sizeLf14] at hi'
    rcases (show i' = 0 ∨ i' = 1 ∨ i' = 2 ∨ i' = 3 ∨ i' = 4 by omega) with rfl | rfl | rfl | rfl | rfl
    · intro ll bb w' hs hlf hN hO hf hI hA
      clear hi'
      have q7 := hf.kept (s := 7) (by rw [sizeLf14]; kernel_rfl) k7
      obtain ⟨c0, c1, c2, c3, c4, c5⟩ := (hY.below hI).six
      exact Rg.op_value (o := ⟨some 35, Op.load 30 (Operand.tmp 7), _, _, _, _⟩) (x := .agg #[.int .i64 x.id, .int .i64 x.grp, .slice (some ⟨H1, 0, none⟩) x.ant.length x.ant.length, .int .i64 x.til, .int .i64 x.st, .int .i64 x.fr]) rfl rfl (by clear hA HS hN hO hX hY hT hEQ hOo; simp only [execOp]; go_simp) ⟨_, rfl, (fun h => by cases h), rfl, hI, fun _ _ _ _ h => h⟩
    · intro ll bb w' hs hlf hN hO hf hI hA
      clear hi'
      have q2 := hf.kept (s := 2) (by rw [sizeLf14]; kernel_rfl) k2
      obtain ⟨b0, b1, b2, b3, b4, b5⟩ := (hX.below hI).six
      exact Rg.op_value (o := ⟨some 36, Op.load 24 (Operand.tmp 2), _, _, _, _⟩) (x := .agg #[.int .i64 x.id, .int .i64 x.grp, .slice ta x.ant.length tc, .int .i64 x.til, .int .i64 x.st, .int .i64 x.fr]) rfl rfl (by clear hA HS hN hO hX hY hT hEQ hOo; simp only [execOp]; go_simp) ⟨_, rfl, (fun h => by cases h), rfl, hI, fun _ _ _ _ h => h⟩
    · intro ll bb w' hs hlf hN hO hf hI hA
      clear hi'
      have q36 : bb.tmps[36]? = some _ := hf.tmp (k := 1) rfl (by rw [ha]; decide) (hA 1 (by kernel_rfl))
      refine Rg.op_call (o := ⟨some 37, Op.call { callee := Callee.value (Operand.func 10), args := #[(Operand.tmp 36)], argTypes := _ }, _, _, _, _⟩) rfl rfl (by clear hA HS hN hO hX hY hT hEQ hOo; simp only [execOp, resolve]; go_simp) (hT w' hI) ?_
      rintro e w2 ⟨G, h1, h2, rfl, h3, hb2⟩
      exact ⟨_, rfl, _, rfl, (fun h => by cases h), ⟨G, rfl, h3⟩, onto hI hb2, fun k9 y9 _ _ h => HS hb2 k9 y9 h⟩
    · intro ll bb w' hs hlf hN hO hf hI hA
      clear hi'
      have q35 : bb.tmps[35]? = some _ := hf.tmp (k := 0) rfl (by rw [ha]; decide) (hA 0 (by kernel_rfl))
      obtain ⟨G1, e2, hO1⟩ := hA 2 (by kernel_rfl)
      have q37 : bb.tmps[37]? = some _ := hf.tmp (k := 2) rfl (by rw [ha]; decide) e2
      refine Rg.op_call (o := ⟨some 38, Op.call { callee := Callee.value (Operand.func 13), args := #[(Operand.tmp 35), (Operand.tmp 37)], argTypes := _ }, _, _, _, _⟩) rfl rfl (by clear hA HS hN hO hX hY hT hEQ hOo; simp only [execOp, resolve]; go_simp) (hEQ G1 w' hI hO1) ?_
      rintro e w2 ⟨rfl, hb2⟩
      exact ⟨_, rfl, _, rfl, (fun h => by cases h), rfl, onto hI hb2, fun k9 y9 _ _ h => HS hb2 k9 y9 h⟩
    · intro ll bb w' hs hlf hN hO hf hI hA
      clear hi'
      have q38 : bb.tmps[38]? = some _ := hf.tmp (k := 3) rfl (by rw [ha]; decide) (hA 3 (by kernel_rfl))
      exact Rg.op_value (o := ⟨some 39, Op.unOp UnOp.not 4 (Operand.tmp 38), _, _, _, _⟩) (x := .bool false) rfl rfl (by clear hA HS hN hO hX hY hT hEQ hOo; simp only [execOp]; go_simp) ⟨_, rfl, (fun h => by cases h), rfl, hI, fun _ _ _ _ h => h⟩

theorem dLf14_0 : Rg.dstAt (Rg.opsOf Try.f3 14) 0 = some 35 := by kernel_rfl
theorem dLf14_1 : Rg.dstAt (Rg.opsOf Try.f3 14) 1 = some 36 := by kernel_rfl
theorem dLf14_2 : Rg.dstAt (Rg.opsOf Try.f3 14) 2 = some 37 := by kernel_rfl
theorem dLf14_3 : Rg.dstAt (Rg.opsOf Try.f3 14) 3 = some 38 := by kernel_rfl
theorem dLf14_4 : Rg.dstAt (Rg.opsOf Try.f3 14) 4 = some 39 := by kernel_rfl
theorem layLf14 {a b : Act} (hf : Rg.Fr (Rg.opsOf Try.f3 14) a b) : b = (((((a.put (some 35) (Rg.out (Rg.opsOf Try.f3 14) b 0)).put (some 36) (Rg.out (Rg.opsOf Try.f3 14) b 1)).put (some 37) (Rg.out (Rg.opsOf Try.f3 14) b 2)).put (some 38) (Rg.out (Rg.opsOf Try.f3 14) b 3)).put (some 39) (Rg.out (Rg.opsOf Try.f3 14) b 4)) := by
  have h := hf.chain
  rw [sizeLf14, show List.range 5 = [0, 1, 2, 3, 4] from by decide] at h
  simp only [List.foldl_cons, List.foldl_nil, dLf14_0, dLf14_1, dLf14_2, dLf14_3, dLf14_4] at h
  exact h

def FLf16 (w9 : World) (C D H2 : Nat) (n : Nd) (na : Option Addr) (nc : Nat) (i9 : Nat) (v : Value) (w : World) : Prop :=
  match i9 with
  | 0 => v = .agg #[.int .i64 n.p, .int .i64 n.g, .slice (some ⟨H2, 0, none⟩) n.ag.length n.ag.length]
  | 1 => v = .agg #[.int .i64 n.p, .int .i64 n.g, .slice na n.ag.length nc]
  | 2 => ∃ G2, v = .agg #[.int .i64 n.p, .int .i64 n.g, .slice (some ⟨G2, 0, none⟩) n.ag.length n.ag.length] ∧ Out 1 csI w G2 n.ag.length n.ag n.ag.length
  | 3 => v = .bool true
  | 4 => v = .bool false
  | _ => True
theorem sizeLf16 : (Rg.opsOf Try.f3 16).size = 5 := by kernel_rfl

set_option maxRecDepth 20000 in
set_option maxHeartbeats 8000000 in
theorem regLf16 {Q : Exit → Act → World → Prop} {a : Act} {w9 : World} {C D H2 : Nat} {n : Nd} {na : Option Addr} {nc : Nat} (ha : a.tmps.size = 45)
    (k3 : a.tmps[3]? = some (.pointer (some ⟨C, 0, none⟩))) (k8 : a.tmps[8]? = some (.pointer (some ⟨D, 0, none⟩))) (hE : PB w9 C #[.int .i64 n.p, .int .i64 n.g, .slice na n.ag.length nc] 26)(hZ : PB w9 D #[.int .i64 n.p, .int .i64 n.g, .slice (some ⟨H2, 0, none⟩) n.ag.length n.ag.length] 32)(hU : ∀ W, Below w9.heap.size w9 W → Calls Try.prog 11 #[.agg #[.int .i64 n.p, .int .i64 n.g, .slice na n.ag.length nc]] W fun e W' => ∃ G, W.heap.size ≤ G ∧ G < W'.heap.size ∧ e = .returned (.agg #[.int .i64 n.p, .int .i64 n.g, .slice (some ⟨G, 0, none⟩) n.ag.length n.ag.length]) ∧ Out 1 csI W' G n.ag.length n.ag n.ag.length ∧ Below W.heap.size W W')(hEQ : ∀ G2 W, Below w9.heap.size w9 W → Out 1 csI W G2 n.ag.length n.ag n.ag.length → Calls Try.prog 14 #[.agg #[.int .i64 n.p, .int .i64 n.g, .slice (some ⟨H2, 0, none⟩) n.ag.length n.ag.length], .agg #[.int .i64 n.p, .int .i64 n.g, .slice (some ⟨G2, 0, none⟩) n.ag.length n.ag.length]] W fun e W' => e = .returned (.bool true) ∧ Below W.heap.size W W')
    (hend : ∀ b' w', Rg.Fr (Rg.opsOf Try.f3 16) a b' → Below w9.heap.size w9 w' → Rg.out (Rg.opsOf Try.f3 16) b' 4 = .bool false → Q .normal b' w') :
    (Code.region 16 (Rg.opsOf Try.f3 16) true).wp Try.prog Q a w9 := by
  refine Rg.region_set3 (by kernel_rfl) (fun _ w' => Below w9.heap.size w9 w') (FLf16 w9 C D H2 n na nc) (by rw [ha, sizeLf16]; kernel_rfl) (st_drew (Below.refl _ _)) ?_ ?_
  case refine_2 =>
    intro l b' w' hf hall hI hA
    rw [sizeLf16] at hA
    exact hend b' w' hf hI (hA 4 (by decide))
  case refine_1 =>
    clear hend
    have HS : ∀ {w w' : World}, Below w.heap.size w w' → ∀ k9 y9, FLf16 w9 C D H2 n na nc k9 y9 w → FLf16 w9 C D H2 n na nc k9 y9 w' := by
      intro w w' hb k9 y9 h
      rcases (show k9 = 0 ∨ k9 = 1 ∨ k9 = 2 ∨ k9 = 3 ∨ k9 = 4 ∨ 5 ≤ k9 by omega) with rfl | rfl | rfl | rfl | rfl | hk9
      · exact h
      · exact h
      · obtain ⟨G2, e9, hO2⟩ := h
        exact ⟨_, e9, hO2.below hb⟩
      · exact h
      · exact h
      · unfold FLf16
        split
        · omega
        · omega
        · omega
        · omega
        · omega
        · trivial
    intro i' hi'
    rw [sizeLf16] at hi'
    rcases (show i' = 0 ∨ i' = 1 ∨ i' = 2 ∨ i' = 3 ∨ i' = 4 by omega) with rfl | rfl | rfl | rfl | rfl
    · intro ll bb w' hs hlf hN hO hf hI hA
      clear hi'
      have q8 := hf.kept (s := 8) (by rw [sizeLf16]; kernel_rfl) k8
      obtain ⟨c0, c1, c2⟩ := (hZ.below hI).three
      exact Rg.op_value (o := ⟨some 40, Op.load 32 (Operand.tmp 8), _, _, _, _⟩) (x := .agg #[.int .i64 n.p, .int .i64 n.g, .slice (some ⟨H2, 0, none⟩) n.ag.length n.ag.length]) rfl rfl (by clear hA HS hN hO hE hZ hU hEQ; simp only [execOp]; go_simp) ⟨_, rfl, (fun h => by cases h), rfl, hI, fun _ _ _ _ h => h⟩
    · intro ll bb w' hs hlf hN hO hf hI hA
      clear hi'
      have q3 := hf.kept (s := 3) (by rw [sizeLf16]; kernel_rfl) k3
      obtain ⟨d0, d1, d2⟩ := (hE.below hI).three
      exact Rg.op_value (o := ⟨some 41, Op.load 26 (Operand.tmp 3), _, _, _, _⟩) (x := .agg #[.int .i64 n.p, .int .i64 n.g, .slice na n.ag.length nc]) rfl rfl (by clear hA HS hN hO hE hZ hU hEQ; simp only [execOp]; go_simp) ⟨_, rfl, (fun h => by cases h), rfl, hI, fun _ _ _ _ h => h⟩
    · intro ll bb w' hs hlf hN hO hf hI hA
      clear hi'
      have q41 : bb.tmps[41]? = some _ := hf.tmp (k := 1) rfl (by rw [ha]; decide) (hA 1 (by kernel_rfl))
      refine Rg.op_call (o := ⟨some 42, Op.call { callee := Callee.value (Operand.func 11), args := #[(Operand.tmp 41)], argTypes := _ }, _, _, _, _⟩) rfl rfl (by clear hA HS hN hO hE hZ hU hEQ; simp only [execOp, resolve]; go_simp) (hU w' hI) ?_
      rintro e w2 ⟨G, h1, h2, rfl, h3, hb2⟩
      exact ⟨_, rfl, _, rfl, (fun h => by cases h), ⟨G, rfl, h3⟩, onto hI hb2, fun k9 y9 _ _ h => HS hb2 k9 y9 h⟩
    · intro ll bb w' hs hlf hN hO hf hI hA
      clear hi'
      have q40 : bb.tmps[40]? = some _ := hf.tmp (k := 0) rfl (by rw [ha]; decide) (hA 0 (by kernel_rfl))
      obtain ⟨G2, e2, hO2⟩ := hA 2 (by kernel_rfl)
      have q42 : bb.tmps[42]? = some _ := hf.tmp (k := 2) rfl (by rw [ha]; decide) e2
      refine Rg.op_call (o := ⟨some 43, Op.call { callee := Callee.value (Operand.func 14), args := #[(Operand.tmp 40), (Operand.tmp 42)], argTypes := _ }, _, _, _, _⟩) rfl rfl (by clear hA HS hN hO hE hZ hU hEQ; simp only [execOp, resolve]; go_simp) (hEQ G2 w' hI hO2) ?_
      rintro e w2 ⟨rfl, hb2⟩
      exact ⟨_, rfl, _, rfl, (fun h => by cases h), rfl, onto hI hb2, fun k9 y9 _ _ h => HS hb2 k9 y9 h⟩
    · intro ll bb w' hs hlf hN hO hf hI hA
      clear hi'
      have q43 : bb.tmps[43]? = some _ := hf.tmp (k := 3) rfl (by rw [ha]; decide) (hA 3 (by kernel_rfl))
      exact Rg.op_value (o := ⟨some 44, Op.unOp UnOp.not 4 (Operand.tmp 43), _, _, _, _⟩) (x := .bool false) rfl rfl (by clear hA HS hN hO hE hZ hU hEQ; simp only [execOp]; go_simp) ⟨_, rfl, (fun h => by cases h), rfl, hI, fun _ _ _ _ h => h⟩

theorem dLf16_0 : Rg.dstAt (Rg.opsOf Try.f3 16) 0 = some 40 := by kernel_rfl
theorem dLf16_1 : Rg.dstAt (Rg.opsOf Try.f3 16) 1 = some 41 := by kernel_rfl
theorem dLf16_2 : Rg.dstAt (Rg.opsOf Try.f3 16) 2 = some 42 := by kernel_rfl
theorem dLf16_3 : Rg.dstAt (Rg.opsOf Try.f3 16) 3 = some 43 := by kernel_rfl
theorem dLf16_4 : Rg.dstAt (Rg.opsOf Try.f3 16) 4 = some 44 := by kernel_rfl
theorem layLf16 {a b : Act} (hf : Rg.Fr (Rg.opsOf Try.f3 16) a b) : b = (((((a.put (some 40) (Rg.out (Rg.opsOf Try.f3 16) b 0)).put (some 41) (Rg.out (Rg.opsOf Try.f3 16) b 1)).put (some 42) (Rg.out (Rg.opsOf Try.f3 16) b 2)).put (some 43) (Rg.out (Rg.opsOf Try.f3 16) b 3)).put (some 44) (Rg.out (Rg.opsOf Try.f3 16) b 4)) := by
  have h := hf.chain
  rw [sizeLf16, show List.range 5 = [0, 1, 2, 3, 4] from by decide] at h
  simp only [List.foldl_cons, List.foldl_nil, dLf16_0, dLf16_1, dLf16_2, dLf16_3, dLf16_4] at h
  exact h
end Go.Proofs.Ytaidhcbchpcemab
