/-
  The law on deeds on banks: its regions that draw their order.
-/
import Derived.Test.YtaidhcbchpcemabQ36
namespace Go.Proofs.Ytaidhcbchpcemab
open Go.RowKit Va Bl
set_option linter.all false


def FLb8 (w9 : World) (B C : Nat) (D : List Ut) (ad9 : Option Addr) (dl dc : Nat) (n : Nd) (na : Option Addr) (nc : Nat) (a9 : Da) (R : List Ut) (cd : Int) (i9 : Nat) (v : Value) (w : World) : Prop :=
  match i9 with
  | 0 => v = .slice ad9 dl dc
  | 1 => ∃ G1, v = .slice (some ⟨G1, 0, none⟩) D.length D.length ∧ URw w (.slice (some ⟨G1, 0, none⟩) D.length D.length) D
  | 2 => v = .agg #[.int .i64 n.p, .int .i64 n.g, .slice na n.ag.length nc]
  | 3 => ∃ G2, v = .agg #[.int .i64 n.p, .int .i64 n.g, .slice (some ⟨G2, 0, none⟩) n.ag.length n.ag.length] ∧ Out 1 csI w G2 n.ag.length n.ag n.ag.length
  | 4 => v = .agg #[.int .i64 a9.k, .int .i64 a9.id, .int .i64 a9.t]
  | 5 => v = .agg #[.int .i64 a9.k, .int .i64 a9.id, .int .i64 a9.t]
  | 6 => ∃ M ad c hi, v = .tuple #[.slice ad R.length c, .int .i64 cd] ∧ BDR w w9.heap.size hi R ad c M ∧ hi ≤ w.heap.size
  | 7 => ∃ M ad c hi, v = .tuple #[.slice ad R.length c, .int .i64 cd] ∧ BDR w w9.heap.size hi R ad c M ∧ hi ≤ w.heap.size
  | 8 => ∃ M ad c hi, v = .slice ad R.length c ∧ BDR w w9.heap.size hi R ad c M ∧ hi ≤ w.heap.size
  | 9 => v = .int .i64 cd
  | 10 => ∃ M ad c hi, v = .slice ad R.length c ∧ BDR w w9.heap.size hi R ad c M ∧ hi ≤ w.heap.size
  | 11 => v = .int .i64 cd
  | _ => True
theorem sizeLb8 : (Rg.opsOf Try.f5 8).size = 12 := by kernel_rfl

set_option maxRecDepth 20000 in
set_option maxHeartbeats 8000000 in
theorem regLb8 {Q : Exit → Act → World → Prop} {a : Act} {w9 : World} {B C : Nat} {D : List Ut} {ad9 : Option Addr} {dl dc : Nat} {n : Nd} {na : Option Addr} {nc : Nat} {a9 : Da} {R : List Ut} {cd : Int} (ha : a.tmps.size = 127)
    (k0 : a.tmps[0]? = some (.slice ad9 dl dc)) (k4 : a.tmps[4]? = some (.pointer (some ⟨B, 0, none⟩))) (k5 : a.tmps[5]? = some (.pointer (some ⟨C, 0, none⟩))) (hE : PB w9 B #[.int .i64 n.p, .int .i64 n.g, .slice na n.ag.length nc] 26)(hX : PB w9 C #[.int .i64 a9.k, .int .i64 a9.id, .int .i64 a9.t] 49)(hT : ∀ W, Below w9.heap.size w9 W → Calls Try.prog 17 #[.slice ad9 dl dc] W fun e W' => ∃ G, e = .returned (.slice (some ⟨G, 0, none⟩) D.length D.length) ∧ URw W' (.slice (some ⟨G, 0, none⟩) D.length D.length) D ∧ Below W.heap.size W W')(hU : ∀ W, Below w9.heap.size w9 W → Calls Try.prog 11 #[.agg #[.int .i64 n.p, .int .i64 n.g, .slice na n.ag.length nc]] W fun e W' => ∃ G, W.heap.size ≤ G ∧ G < W'.heap.size ∧ e = .returned (.agg #[.int .i64 n.p, .int .i64 n.g, .slice (some ⟨G, 0, none⟩) n.ag.length n.ag.length]) ∧ Out 1 csI W' G n.ag.length n.ag n.ag.length ∧ Below W.heap.size W W')(hV : ∀ W, Calls Try.prog 26 #[.agg #[.int .i64 a9.k, .int .i64 a9.id, .int .i64 a9.t]] W fun e W' => e = .returned (.agg #[.int .i64 a9.k, .int .i64 a9.id, .int .i64 a9.t]) ∧ Below W.heap.size W W')(hSP : ∀ G1 G2 W, Below w9.heap.size w9 W → URw W (.slice (some ⟨G1, 0, none⟩) D.length D.length) D → Out 1 csI W G2 n.ag.length n.ag n.ag.length → Calls Try.prog 25 #[.slice (some ⟨G1, 0, none⟩) D.length D.length, .agg #[.int .i64 n.p, .int .i64 n.g, .slice (some ⟨G2, 0, none⟩) n.ag.length n.ag.length], .agg #[.int .i64 a9.k, .int .i64 a9.id, .int .i64 a9.t]] W fun e W' => ∃ M ad c, e = .returned (.tuple #[.slice ad R.length c, .int .i64 cd]) ∧ BDR W' w9.heap.size W'.heap.size R ad c M ∧ Below W.heap.size W W')
    (hend : ∀ b' w', Rg.Fr (Rg.opsOf Try.f5 8) a b' → Below w9.heap.size w9 w' → (∃ M ad c hi, Rg.out (Rg.opsOf Try.f5 8) b' 10 = .slice ad R.length c ∧ BDR w' w9.heap.size hi R ad c M ∧ hi ≤ w'.heap.size) → Rg.out (Rg.opsOf Try.f5 8) b' 11 = .int .i64 cd → Q .normal b' w') :
    (Code.region 8 (Rg.opsOf Try.f5 8) true).wp Try.prog Q a w9 := by
  refine Rg.region_set3 (by kernel_rfl) (fun _ w' => Below w9.heap.size w9 w') (FLb8 w9 B C D ad9 dl dc n na nc a9 R cd) (by rw [ha, sizeLb8]; kernel_rfl) (st_drew (Below.refl _ _)) ?_ ?_
  case refine_2 =>
    intro l b' w' hf hall hI hA
    rw [sizeLb8] at hA
    exact hend b' w' hf hI (hA 10 (by decide)) (hA 11 (by decide))
  case refine_1 =>
    clear hend
    have HS : ∀ {w w' : World}, Below w.heap.size w w' → ∀ k9 y9, FLb8 w9 B C D ad9 dl dc n na nc a9 R cd k9 y9 w → FLb8 w9 B C D ad9 dl dc n na nc a9 R cd k9 y9 w' := by
      intro w w' hb k9 y9 h
      rcases (show k9 = 0 ∨ k9 = 1 ∨ k9 = 2 ∨ k9 = 3 ∨ k9 = 4 ∨ k9 = 5 ∨ k9 = 6 ∨ k9 = 7 ∨ k9 = 8 ∨ k9 = 9 ∨ k9 = 10 ∨ k9 = 11 ∨ 12 ≤ k9 by omega) with rfl | rfl | rfl | rfl | rfl | rfl | rfl | rfl | rfl | rfl | rfl | rfl | hk9
      · exact h
      · obtain ⟨G1, e9, hO1⟩ := h
        exact ⟨_, e9, hO1.below hb⟩
      · exact h
      · obtain ⟨G2, e9, hO2⟩ := h
        exact ⟨_, e9, hO2.below hb⟩
      · exact h
      · exact h
      · obtain ⟨M, ad, c, hi, e9, hB1, hB2⟩ := h
        exact ⟨_, _, _, _, e9, hB1.below hb, Nat.le_trans hB2 hb.size⟩
      · obtain ⟨M, ad, c, hi, e9, hB1, hB2⟩ := h
        exact ⟨_, _, _, _, e9, hB1.below hb, Nat.le_trans hB2 hb.size⟩
      · obtain ⟨M, ad, c, hi, e9, hB1, hB2⟩ := h
        exact ⟨_, _, _, _, e9, hB1.below hb, Nat.le_trans hB2 hb.size⟩
      · exact h
      · obtain ⟨M, ad, c, hi, e9, hB1, hB2⟩ := h
        exact ⟨_, _, _, _, e9, hB1.below hb, Nat.le_trans hB2 hb.size⟩
      · exact h
      · unfold FLb8
        split
        · omega
        · omega
        · omega
        · omega
        · omega
        · omega
        · omega
        · omega
        · omega
        · omega
        · omega
        · omega
        · trivial
    intro i' hi'
    rw [sizeLb8] at hi'
    rcases (show i' = 0 ∨ i' = 1 ∨ i' = 2 ∨ i' = 3 ∨ i' = 4 ∨ i' = 5 ∨ i' = 6 ∨ i' = 7 ∨ i' = 8 ∨ i' = 9 ∨ i' = 10 ∨ i' = 11 by omega) with rfl | rfl | rfl | rfl | rfl | rfl | rfl | rfl | rfl | rfl | rfl | rfl
    · intro ll bb w' hs hlf hN hO hf hI hA
      clear hi'
      have q0 := hf.kept (s := 0) (by rw [sizeLb8]; kernel_rfl) k0
      exact Rg.op_value (o := ⟨some 30, Op.move (Operand.tmp 0), _, _, _, _⟩) (x := .slice ad9 dl dc) rfl rfl (by clear hA HS hN hO hX hE hT hU hV hSP; simp only [execOp]; go_simp) ⟨_, rfl, (fun h => by cases h), rfl, hI, fun _ _ _ _ h => h⟩
    · intro ll bb w' hs hlf hN hO hf hI hA
      clear hi'
      have q30 : bb.tmps[30]? = some _ := hf.tmp (k := 0) rfl (by rw [ha]; decide) (hA 0 (by kernel_rfl))
      refine Rg.op_call (o := ⟨some 31, Op.call { callee := Callee.value (Operand.func 17), args := #[(Operand.tmp 30)], argTypes := _ }, _, _, _, _⟩) rfl rfl (by clear hA HS hN hO hX hE hT hU hV hSP; simp only [execOp, resolve]; go_simp) (hT w' hI) ?_
      rintro e w2 ⟨G, rfl, h3, hb2⟩
      exact ⟨_, rfl, _, rfl, (fun h => by cases h), ⟨G, rfl, h3⟩, onto hI hb2, fun k9 y9 _ _ h => HS hb2 k9 y9 h⟩
    · intro ll bb w' hs hlf hN hO hf hI hA
      clear hi'
      have q4 := hf.kept (s := 4) (by rw [sizeLb8]; kernel_rfl) k4
      obtain ⟨d0, d1, d2⟩ := (hE.below hI).three
      exact Rg.op_value (o := ⟨some 32, Op.load 26 (Operand.tmp 4), _, _, _, _⟩) (x := .agg #[.int .i64 n.p, .int .i64 n.g, .slice na n.ag.length nc]) rfl rfl (by clear hA HS hN hO hX hE hT hU hV hSP; simp only [execOp]; go_simp) ⟨_, rfl, (fun h => by cases h), rfl, hI, fun _ _ _ _ h => h⟩
    · intro ll bb w' hs hlf hN hO hf hI hA
      clear hi'
      have q32 : bb.tmps[32]? = some _ := hf.tmp (k := 2) rfl (by rw [ha]; decide) (hA 2 (by kernel_rfl))
      refine Rg.op_call (o := ⟨some 33, Op.call { callee := Callee.value (Operand.func 11), args := #[(Operand.tmp 32)], argTypes := _ }, _, _, _, _⟩) rfl rfl (by clear hA HS hN hO hX hE hT hU hV hSP; simp only [execOp, resolve]; go_simp) (hU w' hI) ?_
      rintro e w2 ⟨G, h1, h2, rfl, h3, hb2⟩
      exact ⟨_, rfl, _, rfl, (fun h => by cases h), ⟨G, rfl, h3⟩, onto hI hb2, fun k9 y9 _ _ h => HS hb2 k9 y9 h⟩
    · intro ll bb w' hs hlf hN hO hf hI hA
      clear hi'
      have q5 := hf.kept (s := 5) (by rw [sizeLb8]; kernel_rfl) k5
      obtain ⟨b0, b1, b2⟩ := (hX.below hI).three
      exact Rg.op_value (o := ⟨some 34, Op.load 49 (Operand.tmp 5), _, _, _, _⟩) (x := .agg #[.int .i64 a9.k, .int .i64 a9.id, .int .i64 a9.t]) rfl rfl (by clear hA HS hN hO hX hE hT hU hV hSP; simp only [execOp]; go_simp) ⟨_, rfl, (fun h => by cases h), rfl, hI, fun _ _ _ _ h => h⟩
    · intro ll bb w' hs hlf hN hO hf hI hA
      clear hi'
      have q34 : bb.tmps[34]? = some _ := hf.tmp (k := 4) rfl (by rw [ha]; decide) (hA 4 (by kernel_rfl))
      refine Rg.op_call (o := ⟨some 35, Op.call { callee := Callee.value (Operand.func 26), args := #[(Operand.tmp 34)], argTypes := _ }, _, _, _, _⟩) rfl rfl (by clear hA HS hN hO hX hE hT hU hV hSP; simp only [execOp, resolve]; go_simp) (hV w') ?_
      rintro e w2 ⟨rfl, hb2⟩
      exact ⟨_, rfl, _, rfl, (fun h => by cases h), rfl, onto hI hb2, fun k9 y9 _ _ h => HS hb2 k9 y9 h⟩
    · intro ll bb w' hs hlf hN hO hf hI hA
      clear hi'
      obtain ⟨G1, e1, hO1⟩ := hA 1 (by kernel_rfl)
      have q31 : bb.tmps[31]? = some _ := hf.tmp (k := 1) rfl (by rw [ha]; decide) e1
      obtain ⟨G2, e3, hO2⟩ := hA 3 (by kernel_rfl)
      have q33 : bb.tmps[33]? = some _ := hf.tmp (k := 3) rfl (by rw [ha]; decide) e3
      have q35 : bb.tmps[35]? = some _ := hf.tmp (k := 5) rfl (by rw [ha]; decide) (hA 5 (by kernel_rfl))
      refine Rg.op_call (o := ⟨some 36, Op.call { callee := Callee.value (Operand.func 25), args := #[(Operand.tmp 31), (Operand.tmp 33), (Operand.tmp 35)], argTypes := _ }, _, _, _, _⟩) rfl rfl (by clear hA HS hN hO hX hE hT hU hV hSP; simp only [execOp, resolve]; go_simp) (hSP G1 G2 w' hI hO1 hO2) ?_
      rintro e w2 ⟨M, ad, c, rfl, hB, hb2⟩
      exact ⟨_, rfl, _, rfl, (fun h => by cases h), ⟨M, ad, c, _, rfl, hB, Nat.le_refl _⟩, onto hI hb2, fun k9 y9 _ _ h => HS hb2 k9 y9 h⟩
    · intro ll bb w' hs hlf hN hO hf hI hA
      clear hi'
      obtain ⟨M, ad, c, hi, e6, hB1, hB2⟩ := hA 6 (by kernel_rfl)
      have q36 : bb.tmps[36]? = some _ := hf.tmp (k := 6) rfl (by rw [ha]; decide) e6
      exact Rg.op_value (o := ⟨some 29, Op.move (Operand.tmp 36), _, _, _, _⟩) (x := .tuple #[.slice ad R.length c, .int .i64 cd]) rfl rfl (by clear hA HS hN hO hX hE hT hU hV hSP; simp only [execOp]; go_simp) ⟨_, rfl, (fun h => by cases h), ⟨M, ad, c, hi, rfl, hB1, hB2⟩, hI, fun _ _ _ _ h => h⟩
    · intro ll bb w' hs hlf hN hO hf hI hA
      clear hi'
      obtain ⟨M, ad, c, hi, e7, hB1, hB2⟩ := hA 7 (by kernel_rfl)
      have q29 : bb.tmps[29]? = some _ := hf.tmp (k := 7) rfl (by rw [ha]; decide) e7
      exact Rg.op_value (o := ⟨some 37, Op.extract (Operand.tmp 29) 0, _, _, _, _⟩) (x := .slice ad R.length c) rfl rfl (by clear hA HS hN hO hX hE hT hU hV hSP; simp only [execOp]; go_simp) ⟨_, rfl, (fun h => by cases h), ⟨M, ad, c, hi, rfl, hB1, hB2⟩, hI, fun _ _ _ _ h => h⟩
    · intro ll bb w' hs hlf hN hO hf hI hA
      clear hi'
      obtain ⟨M, ad, c, hi, e7, hB1, hB2⟩ := hA 7 (by kernel_rfl)
      have q29 : bb.tmps[29]? = some _ := hf.tmp (k := 7) rfl (by rw [ha]; decide) e7
      exact Rg.op_value (o := ⟨some 38, Op.extract (Operand.tmp 29) 1, _, _, _, _⟩) (x := .int .i64 cd) rfl rfl (by clear hA HS hN hO hX hE hT hU hV hSP; simp only [execOp]; go_simp) ⟨_, rfl, (fun h => by cases h), rfl, hI, fun _ _ _ _ h => h⟩
    · intro ll bb w' hs hlf hN hO hf hI hA
      clear hi'
      obtain ⟨M, ad, c, hi, e8, hB1, hB2⟩ := hA 8 (by kernel_rfl)
      have q37 : bb.tmps[37]? = some _ := hf.tmp (k := 8) rfl (by rw [ha]; decide) e8
      exact Rg.op_value (o := ⟨some 8, Op.assign (Operand.tmp 37), _, _, _, _⟩) (x := .slice ad R.length c) rfl rfl (by clear hA HS hN hO hX hE hT hU hV hSP; simp only [execOp]; go_simp) ⟨_, rfl, (fun h => by cases h), ⟨M, ad, c, hi, rfl, hB1, hB2⟩, hI, fun _ _ _ _ h => h⟩
    · intro ll bb w' hs hlf hN hO hf hI hA
      clear hi'
      have q38 : bb.tmps[38]? = some _ := hf.tmp (k := 9) rfl (by rw [ha]; decide) (hA 9 (by kernel_rfl))
      exact Rg.op_value (o := ⟨some 9, Op.assign (Operand.tmp 38), _, _, _, _⟩) (x := .int .i64 cd) rfl rfl (by clear hA HS hN hO hX hE hT hU hV hSP; simp only [execOp]; go_simp) ⟨_, rfl, (fun h => by cases h), rfl, hI, fun _ _ _ _ h => h⟩

theorem dLb8_0 : Rg.dstAt (Rg.opsOf Try.f5 8) 0 = some 30 := by kernel_rfl
theorem dLb8_1 : Rg.dstAt (Rg.opsOf Try.f5 8) 1 = some 31 := by kernel_rfl
theorem dLb8_2 : Rg.dstAt (Rg.opsOf Try.f5 8) 2 = some 32 := by kernel_rfl
theorem dLb8_3 : Rg.dstAt (Rg.opsOf Try.f5 8) 3 = some 33 := by kernel_rfl
theorem dLb8_4 : Rg.dstAt (Rg.opsOf Try.f5 8) 4 = some 34 := by kernel_rfl
theorem dLb8_5 : Rg.dstAt (Rg.opsOf Try.f5 8) 5 = some 35 := by kernel_rfl
theorem dLb8_6 : Rg.dstAt (Rg.opsOf Try.f5 8) 6 = some 36 := by kernel_rfl
theorem dLb8_7 : Rg.dstAt (Rg.opsOf Try.f5 8) 7 = some 29 := by kernel_rfl
theorem dLb8_8 : Rg.dstAt (Rg.opsOf Try.f5 8) 8 = some 37 := by kernel_rfl
theorem dLb8_9 : Rg.dstAt (Rg.opsOf Try.f5 8) 9 = some 38 := by kernel_rfl
theorem dLb8_10 : Rg.dstAt (Rg.opsOf Try.f5 8) 10 = some 8 := by kernel_rfl
theorem dLb8_11 : Rg.dstAt (Rg.opsOf Try.f5 8) 11 = some 9 := by kernel_rfl
theorem layLb8 {a b : Act} (hf : Rg.Fr (Rg.opsOf Try.f5 8) a b) : b = ((((((((((((a.put (some 30) (Rg.out (Rg.opsOf Try.f5 8) b 0)).put (some 31) (Rg.out (Rg.opsOf Try.f5 8) b 1)).put (some 32) (Rg.out (Rg.opsOf Try.f5 8) b 2)).put (some 33) (Rg.out (Rg.opsOf Try.f5 8) b 3)).put (some 34) (Rg.out (Rg.opsOf Try.f5 8) b 4)).put (some 35) (Rg.out (Rg.opsOf Try.f5 8) b 5)).put (some 36) (Rg.out (Rg.opsOf Try.f5 8) b 6)).put (some 29) (Rg.out (Rg.opsOf Try.f5 8) b 7)).put (some 37) (Rg.out (Rg.opsOf Try.f5 8) b 8)).put (some 38) (Rg.out (Rg.opsOf Try.f5 8) b 9)).put (some 8) (Rg.out (Rg.opsOf Try.f5 8) b 10)).put (some 9) (Rg.out (Rg.opsOf Try.f5 8) b 11)) := by
  have h := hf.chain
  rw [sizeLb8, show List.range 12 = [0, 1, 2, 3, 4, 5, 6, 7, 8, 9, 10, 11] from by decide] at h
  simp only [List.foldl_cons, List.foldl_nil, dLb8_0, dLb8_1, dLb8_2, dLb8_3, dLb8_4, dLb8_5, dLb8_6, dLb8_7, dLb8_8, dLb8_9, dLb8_10, dLb8_11] at h
  exact h

def FLb11 (w9 : World) (B C H1 H2 : Nat) (D : List Ut) (n : Nd) (a9 : Da) (R : List Ut) (cd : Int) (i9 : Nat) (v : Value) (w : World) : Prop :=
  match i9 with
  | 0 => v = .slice (some ⟨H1, 0, none⟩) D.length D.length
  | 1 => v = .agg #[.int .i64 n.p, .int .i64 n.g, .slice (some ⟨H2, 0, none⟩) n.ag.length n.ag.length]
  | 2 => v = .agg #[.int .i64 a9.k, .int .i64 a9.id, .int .i64 a9.t]
  | 3 => v = .agg #[.int .i64 a9.k, .int .i64 a9.id, .int .i64 a9.t]
  | 4 => ∃ M ad c hi, v = .tuple #[.slice ad R.length c, .int .i64 cd] ∧ BDR w w9.heap.size hi R ad c M ∧ hi ≤ w.heap.size
  | 5 => ∃ M ad c hi, v = .tuple #[.slice ad R.length c, .int .i64 cd] ∧ BDR w w9.heap.size hi R ad c M ∧ hi ≤ w.heap.size
  | 6 => ∃ M ad c hi, v = .slice ad R.length c ∧ BDR w w9.heap.size hi R ad c M ∧ hi ≤ w.heap.size
  | 7 => v = .int .i64 cd
  | 8 => ∃ M ad c hi, v = .slice ad R.length c ∧ BDR w w9.heap.size hi R ad c M ∧ hi ≤ w.heap.size
  | 9 => v = .int .i64 cd
  | _ => True
theorem sizeLb11 : (Rg.opsOf Try.f5 11).size = 10 := by kernel_rfl

set_option maxRecDepth 20000 in
set_option maxHeartbeats 8000000 in
theorem regLb11 {Q : Exit → Act → World → Prop} {a : Act} {w9 : World} {B C H1 H2 : Nat} {D : List Ut} {n : Nd} {a9 : Da} {R : List Ut} {cd : Int} (ha : a.tmps.size = 127)
    (k5 : a.tmps[5]? = some (.pointer (some ⟨C, 0, none⟩))) (k10 : a.tmps[10]? = some (.slice (some ⟨H1, 0, none⟩) D.length D.length)) (k11 : a.tmps[11]? = some (.pointer (some ⟨B, 0, none⟩))) (hX : PB w9 C #[.int .i64 a9.k, .int .i64 a9.id, .int .i64 a9.t] 49)(hZ : PB w9 B #[.int .i64 n.p, .int .i64 n.g, .slice (some ⟨H2, 0, none⟩) n.ag.length n.ag.length] 32)(hV : ∀ W, Calls Try.prog 26 #[.agg #[.int .i64 a9.k, .int .i64 a9.id, .int .i64 a9.t]] W fun e W' => e = .returned (.agg #[.int .i64 a9.k, .int .i64 a9.id, .int .i64 a9.t]) ∧ Below W.heap.size W W')(hIM : ∀ W, Below w9.heap.size w9 W → Calls Try.prog 27 #[.slice (some ⟨H1, 0, none⟩) D.length D.length, .agg #[.int .i64 n.p, .int .i64 n.g, .slice (some ⟨H2, 0, none⟩) n.ag.length n.ag.length], .agg #[.int .i64 a9.k, .int .i64 a9.id, .int .i64 a9.t]] W fun e W' => ∃ M ad c, e = .returned (.tuple #[.slice ad R.length c, .int .i64 cd]) ∧ BDR W' w9.heap.size W'.heap.size R ad c M ∧ Below W.heap.size W W')
    (hend : ∀ b' w', Rg.Fr (Rg.opsOf Try.f5 11) a b' → Below w9.heap.size w9 w' → (∃ M ad c hi, Rg.out (Rg.opsOf Try.f5 11) b' 8 = .slice ad R.length c ∧ BDR w' w9.heap.size hi R ad c M ∧ hi ≤ w'.heap.size) → Rg.out (Rg.opsOf Try.f5 11) b' 9 = .int .i64 cd → Q .normal b' w') :
    (Code.region 11 (Rg.opsOf Try.f5 11) true).wp Try.prog Q a w9 := by
  refine Rg.region_set3 (by kernel_rfl) (fun _ w' => Below w9.heap.size w9 w') (FLb11 w9 B C H1 H2 D n a9 R cd) (by rw [ha, sizeLb11]; kernel_rfl) (st_drew (Below.refl _ _)) ?_ ?_
  case refine_2 =>
    intro l b' w' hf hall hI hA
    rw [sizeLb11] at hA
    exact hend b' w' hf hI (hA 8 (by decide)) (hA 9 (by decide))
  case refine_1 =>
    clear hend
    have HS : ∀ {w w' : World}, Below w.heap.size w w' → ∀ k9 y9, FLb11 w9 B C H1 H2 D n a9 R cd k9 y9 w → FLb11 w9 B C H1 H2 D n a9 R cd k9 y9 w' := by
      intro w w' hb k9 y9 h
      rcases (show k9 = 0 ∨ k9 = 1 ∨ k9 = 2 ∨ k9 = 3 ∨ k9 = 4 ∨ k9 = 5 ∨ k9 = 6 ∨ k9 = 7 ∨ k9 = 8 ∨ k9 = 9 ∨ 10 ≤ k9 by omega) with rfl | rfl | rfl | rfl | rfl | rfl | rfl | rfl | rfl | rfl | hk9
      · exact h
      · exact h
      · exact h
      · exact h
      · obtain ⟨M, ad, c, hi, e9, hB1, hB2⟩ := h
        exact ⟨_, _, _, _, e9, hB1.below hb, Nat.le_trans hB2 hb.size⟩
      · obtain ⟨M, ad, c, hi, e9, hB1, hB2⟩ := h
        exact ⟨_, _, _, _, e9, hB1.below hb, Nat.le_trans hB2 hb.size⟩
      · obtain ⟨M, ad, c, hi, e9, hB1, hB2⟩ := h
        exact ⟨_, _, _, _, e9, hB1.below hb, Nat.le_trans hB2 hb.size⟩
      · exact h
      · obtain ⟨M, ad, c, hi, e9, hB1, hB2⟩ := h
        exact ⟨_, _, _, _, e9, hB1.below hb, Nat.le_trans hB2 hb.size⟩
      · exact h
      · unfold FLb11
        split
        · omega
        · omega
        · omega
        · omega
        · omega
        · omega
        · omega
        · omega
        · omega
        · omega
        · trivial
    intro i' hi'
    rw [sizeLb11] at hi'
    rcases (show i' = 0 ∨ i' = 1 ∨ i' = 2 ∨ i' = 3 ∨ i' = 4 ∨ i' = 5 ∨ i' = 6 ∨ i' = 7 ∨ i' = 8 ∨ i' = 9 by omega) with rfl | rfl | rfl | rfl | rfl | rfl | rfl | rfl | rfl | rfl
    · intro ll bb w' hs hlf hN hO hf hI hA
      clear hi'
      have q10 := hf.kept (s := 10) (by rw [sizeLb11]; kernel_rfl) k10
      exact Rg.op_value (o := ⟨some 44, Op.move (Operand.tmp 10), _, _, _, _⟩) (x := .slice (some ⟨H1, 0, none⟩) D.length D.length) rfl rfl (by clear hA HS hN hO hX hZ hV hIM; simp only [execOp]; go_simp) ⟨_, rfl, (fun h => by cases h), rfl, hI, fun _ _ _ _ h => h⟩
    · intro ll bb w' hs hlf hN hO hf hI hA
      clear hi'
      have q11 := hf.kept (s := 11) (by rw [sizeLb11]; kernel_rfl) k11
      obtain ⟨d0, d1, d2⟩ := (hZ.below hI).three
      exact Rg.op_value (o := ⟨some 45, Op.load 32 (Operand.tmp 11), _, _, _, _⟩) (x := .agg #[.int .i64 n.p, .int .i64 n.g, .slice (some ⟨H2, 0, none⟩) n.ag.length n.ag.length]) rfl rfl (by clear hA HS hN hO hX hZ hV hIM; simp only [execOp]; go_simp) ⟨_, rfl, (fun h => by cases h), rfl, hI, fun _ _ _ _ h => h⟩
    · intro ll bb w' hs hlf hN hO hf hI hA
      clear hi'
      have q5 := hf.kept (s := 5) (by rw [sizeLb11]; kernel_rfl) k5
      obtain ⟨b0, b1, b2⟩ := (hX.below hI).three
      exact Rg.op_value (o := ⟨some 46, Op.load 49 (Operand.tmp 5), _, _, _, _⟩) (x := .agg #[.int .i64 a9.k, .int .i64 a9.id, .int .i64 a9.t]) rfl rfl (by clear hA HS hN hO hX hZ hV hIM; simp only [execOp]; go_simp) ⟨_, rfl, (fun h => by cases h), rfl, hI, fun _ _ _ _ h => h⟩
    · intro ll bb w' hs hlf hN hO hf hI hA
      clear hi'
      have q46 : bb.tmps[46]? = some _ := hf.tmp (k := 2) rfl (by rw [ha]; decide) (hA 2 (by kernel_rfl))
      refine Rg.op_call (o := ⟨some 47, Op.call { callee := Callee.value (Operand.func 26), args := #[(Operand.tmp 46)], argTypes := _ }, _, _, _, _⟩) rfl rfl (by clear hA HS hN hO hX hZ hV hIM; simp only [execOp, resolve]; go_simp) (hV w') ?_
      rintro e w2 ⟨rfl, hb2⟩
      exact ⟨_, rfl, _, rfl, (fun h => by cases h), rfl, onto hI hb2, fun k9 y9 _ _ h => HS hb2 k9 y9 h⟩
    · intro ll bb w' hs hlf hN hO hf hI hA
      clear hi'
      have q44 : bb.tmps[44]? = some _ := hf.tmp (k := 0) rfl (by rw [ha]; decide) (hA 0 (by kernel_rfl))
      have q45 : bb.tmps[45]? = some _ := hf.tmp (k := 1) rfl (by rw [ha]; decide) (hA 1 (by kernel_rfl))
      have q47 : bb.tmps[47]? = some _ := hf.tmp (k := 3) rfl (by rw [ha]; decide) (hA 3 (by kernel_rfl))
      refine Rg.op_call (o := ⟨some 48, Op.call { callee := Callee.value (Operand.func 27), args := #[(Operand.tmp 44), (Operand.tmp 45), (Operand.tmp 47)], argTypes := _ }, _, _, _, _⟩) rfl rfl (by clear hA HS hN hO hX hZ hV hIM; simp only [execOp, resolve]; go_simp) (hIM w' hI) ?_
      rintro e w2 ⟨M, ad, c, rfl, hB, hb2⟩
      exact ⟨_, rfl, _, rfl, (fun h => by cases h), ⟨M, ad, c, _, rfl, hB, Nat.le_refl _⟩, onto hI hb2, fun k9 y9 _ _ h => HS hb2 k9 y9 h⟩
    · intro ll bb w' hs hlf hN hO hf hI hA
      clear hi'
      obtain ⟨M, ad, c, hi, e4, hB1, hB2⟩ := hA 4 (by kernel_rfl)
      have q48 : bb.tmps[48]? = some _ := hf.tmp (k := 4) rfl (by rw [ha]; decide) e4
      exact Rg.op_value (o := ⟨some 43, Op.move (Operand.tmp 48), _, _, _, _⟩) (x := .tuple #[.slice ad R.length c, .int .i64 cd]) rfl rfl (by clear hA HS hN hO hX hZ hV hIM; simp only [execOp]; go_simp) ⟨_, rfl, (fun h => by cases h), ⟨M, ad, c, hi, rfl, hB1, hB2⟩, hI, fun _ _ _ _ h => h⟩
    · intro ll bb w' hs hlf hN hO hf hI hA
      clear hi'
      obtain ⟨M, ad, c, hi, e5, hB1, hB2⟩ := hA 5 (by kernel_rfl)
      have q43 : bb.tmps[43]? = some _ := hf.tmp (k := 5) rfl (by rw [ha]; decide) e5
      exact Rg.op_value (o := ⟨some 49, Op.extract (Operand.tmp 43) 0, _, _, _, _⟩) (x := .slice ad R.length c) rfl rfl (by clear hA HS hN hO hX hZ hV hIM; simp only [execOp]; go_simp) ⟨_, rfl, (fun h => by cases h), ⟨M, ad, c, hi, rfl, hB1, hB2⟩, hI, fun _ _ _ _ h => h⟩
    · intro ll bb w' hs hlf hN hO hf hI hA
      clear hi'
      obtain ⟨M, ad, c, hi, e5, hB1, hB2⟩ := hA 5 (by kernel_rfl)
      have q43 : bb.tmps[43]? = some _ := hf.tmp (k := 5) rfl (by rw [ha]; decide) e5
      exact Rg.op_value (o := ⟨some 50, Op.extract (Operand.tmp 43) 1, _, _, _, _⟩) (x := .int .i64 cd) rfl rfl (by clear hA HS hN hO hX hZ hV hIM; simp only [execOp]; go_simp) ⟨_, rfl, (fun h => by cases h), rfl, hI, fun _ _ _ _ h => h⟩
    · intro ll bb w' hs hlf hN hO hf hI hA
      clear hi'
      obtain ⟨M, ad, c, hi, e6, hB1, hB2⟩ := hA 6 (by kernel_rfl)
      have q49 : bb.tmps[49]? = some _ := hf.tmp (k := 6) rfl (by rw [ha]; decide) e6
      exact Rg.op_value (o := ⟨some 12, Op.assign (Operand.tmp 49), _, _, _, _⟩) (x := .slice ad R.length c) rfl rfl (by clear hA HS hN hO hX hZ hV hIM; simp only [execOp]; go_simp) ⟨_, rfl, (fun h => by cases h), ⟨M, ad, c, hi, rfl, hB1, hB2⟩, hI, fun _ _ _ _ h => h⟩
    · intro ll bb w' hs hlf hN hO hf hI hA
      clear hi'
      have q50 : bb.tmps[50]? = some _ := hf.tmp (k := 7) rfl (by rw [ha]; decide) (hA 7 (by kernel_rfl))
      exact Rg.op_value (o := ⟨some 13, Op.assign (Operand.tmp 50), _, _, _, _⟩) (x := .int .i64 cd) rfl rfl (by clear hA HS hN hO hX hZ hV hIM; simp only [execOp]; go_simp) ⟨_, rfl, (fun h => by cases h), rfl, hI, fun _ _ _ _ h => h⟩

theorem dLb11_0 : Rg.dstAt (Rg.opsOf Try.f5 11) 0 = some 44 := by kernel_rfl
theorem dLb11_1 : Rg.dstAt (Rg.opsOf Try.f5 11) 1 = some 45 := by kernel_rfl
theorem dLb11_2 : Rg.dstAt (Rg.opsOf Try.f5 11) 2 = some 46 := by kernel_rfl
theorem dLb11_3 : Rg.dstAt (Rg.opsOf Try.f5 11) 3 = some 47 := by kernel_rfl
theorem dLb11_4 : Rg.dstAt (Rg.opsOf Try.f5 11) 4 = some 48 := by kernel_rfl
theorem dLb11_5 : Rg.dstAt (Rg.opsOf Try.f5 11) 5 = some 43 := by kernel_rfl
theorem dLb11_6 : Rg.dstAt (Rg.opsOf Try.f5 11) 6 = some 49 := by kernel_rfl
theorem dLb11_7 : Rg.dstAt (Rg.opsOf Try.f5 11) 7 = some 50 := by kernel_rfl
theorem dLb11_8 : Rg.dstAt (Rg.opsOf Try.f5 11) 8 = some 12 := by kernel_rfl
theorem dLb11_9 : Rg.dstAt (Rg.opsOf Try.f5 11) 9 = some 13 := by kernel_rfl
theorem layLb11 {a b : Act} (hf : Rg.Fr (Rg.opsOf Try.f5 11) a b) : b = ((((((((((a.put (some 44) (Rg.out (Rg.opsOf Try.f5 11) b 0)).put (some 45) (Rg.out (Rg.opsOf Try.f5 11) b 1)).put (some 46) (Rg.out (Rg.opsOf Try.f5 11) b 2)).put (some 47) (Rg.out (Rg.opsOf Try.f5 11) b 3)).put (some 48) (Rg.out (Rg.opsOf Try.f5 11) b 4)).put (some 43) (Rg.out (Rg.opsOf Try.f5 11) b 5)).put (some 49) (Rg.out (Rg.opsOf Try.f5 11) b 6)).put (some 50) (Rg.out (Rg.opsOf Try.f5 11) b 7)).put (some 12) (Rg.out (Rg.opsOf Try.f5 11) b 8)).put (some 13) (Rg.out (Rg.opsOf Try.f5 11) b 9)) := by
  have h := hf.chain
  rw [sizeLb11, show List.range 10 = [0, 1, 2, 3, 4, 5, 6, 7, 8, 9] from by decide] at h
  simp only [List.foldl_cons, List.foldl_nil, dLb11_0, dLb11_1, dLb11_2, dLb11_3, dLb11_4, dLb11_5, dLb11_6, dLb11_7, dLb11_8, dLb11_9] at h
  exact h

def FLb16 (w9 : World) (B D9 H2 : Nat) (n : Nd) (na : Option Addr) (nc : Nat) (i9 : Nat) (v : Value) (w : World) : Prop :=
  match i9 with
  | 0 => v = .agg #[.int .i64 n.p, .int .i64 n.g, .slice (some ⟨H2, 0, none⟩) n.ag.length n.ag.length]
  | 1 => v = .agg #[.int .i64 n.p, .int .i64 n.g, .slice na n.ag.length nc]
  | 2 => ∃ G2, v = .agg #[.int .i64 n.p, .int .i64 n.g, .slice (some ⟨G2, 0, none⟩) n.ag.length n.ag.length] ∧ Out 1 csI w G2 n.ag.length n.ag n.ag.length
  | 3 => v = .bool true
  | 4 => v = .bool false
  | _ => True
theorem sizeLb16 : (Rg.opsOf Try.f5 16).size = 5 := by kernel_rfl

set_option maxRecDepth 20000 in
set_option maxHeartbeats 8000000 in
theorem regLb16 {Q : Exit → Act → World → Prop} {a : Act} {w9 : World} {B D9 H2 : Nat} {n : Nd} {na : Option Addr} {nc : Nat} (ha : a.tmps.size = 127)
    (k4 : a.tmps[4]? = some (.pointer (some ⟨B, 0, none⟩))) (k11 : a.tmps[11]? = some (.pointer (some ⟨D9, 0, none⟩))) (hE : PB w9 B #[.int .i64 n.p, .int .i64 n.g, .slice na n.ag.length nc] 26)(hZ : PB w9 D9 #[.int .i64 n.p, .int .i64 n.g, .slice (some ⟨H2, 0, none⟩) n.ag.length n.ag.length] 32)(hU : ∀ W, Below w9.heap.size w9 W → Calls Try.prog 11 #[.agg #[.int .i64 n.p, .int .i64 n.g, .slice na n.ag.length nc]] W fun e W' => ∃ G, W.heap.size ≤ G ∧ G < W'.heap.size ∧ e = .returned (.agg #[.int .i64 n.p, .int .i64 n.g, .slice (some ⟨G, 0, none⟩) n.ag.length n.ag.length]) ∧ Out 1 csI W' G n.ag.length n.ag n.ag.length ∧ Below W.heap.size W W')(hEQ : ∀ G2 W, Below w9.heap.size w9 W → Out 1 csI W G2 n.ag.length n.ag n.ag.length → Calls Try.prog 14 #[.agg #[.int .i64 n.p, .int .i64 n.g, .slice (some ⟨H2, 0, none⟩) n.ag.length n.ag.length], .agg #[.int .i64 n.p, .int .i64 n.g, .slice (some ⟨G2, 0, none⟩) n.ag.length n.ag.length]] W fun e W' => e = .returned (.bool true) ∧ Below W.heap.size W W')
    (hend : ∀ b' w', Rg.Fr (Rg.opsOf Try.f5 16) a b' → Below w9.heap.size w9 w' → Rg.out (Rg.opsOf Try.f5 16) b' 4 = .bool false → Q .normal b' w') :
    (Code.region 16 (Rg.opsOf Try.f5 16) true).wp Try.prog Q a w9 := by
  refine Rg.region_set3 (by kernel_rfl) (fun _ w' => Below w9.heap.size w9 w') (FLb16 w9 B D9 H2 n na nc) (by rw [ha, sizeLb16]; kernel_rfl) (st_drew (Below.refl _ _)) ?_ ?_
  case refine_2 =>
    intro l b' w' hf hall hI hA
    rw [sizeLb16] at hA
    exact hend b' w' hf hI (hA 4 (by decide))
  case refine_1 =>
    clear hend
    have HS : ∀ {w w' : World}, Below w.heap.size w w' → ∀ k9 y9, FLb16 w9 B D9 H2 n na nc k9 y9 w → FLb16 w9 B D9 H2 n na nc k9 y9 w' := by
      intro w w' hb k9 y9 h
      rcases (show k9 = 0 ∨ k9 = 1 ∨ k9 = 2 ∨ k9 = 3 ∨ k9 = 4 ∨ 5 ≤ k9 by omega) with rfl | rfl | rfl | rfl | rfl | hk9
      · exact h
      · exact h
      · obtain ⟨G2, e9, hO2⟩ := h
        exact ⟨_, e9, hO2.below hb⟩
      · exact h
      · exact h
      · unfold FLb16
        split
        · omega
        · omega
        · omega
        · omega
        · omega
        · trivial
    intro i' hi'
    rw [sizeLb16] at hi'
    rcases (show i' = 0 ∨ i' = 1 ∨ i' = 2 ∨ i' = 3 ∨ i' = 4 by omega) with rfl | rfl | rfl | rfl | rfl
    · intro ll bb w' hs hlf hN hO hf hI hA
      clear hi'
      have q11 := hf.kept (s := 11) (by rw [sizeLb16]; kernel_rfl) k11
      obtain ⟨c0, c1, c2⟩ := (hZ.below hI).three
      exact Rg.op_value (o := ⟨some 65, Op.load 32 (Operand.tmp 11), _, _, _, _⟩) (x := .agg #[.int .i64 n.p, .int .i64 n.g, .slice (some ⟨H2, 0, none⟩) n.ag.length n.ag.length]) rfl rfl (by clear hA HS hN hO hE hZ hU hEQ; simp only [execOp]; go_simp) ⟨_, rfl, (fun h => by cases h), rfl, hI, fun _ _ _ _ h => h⟩
    · intro ll bb w' hs hlf hN hO hf hI hA
      clear hi'
      have q4 := hf.kept (s := 4) (by rw [sizeLb16]; kernel_rfl) k4
      obtain ⟨d0, d1, d2⟩ := (hE.below hI).three
      exact Rg.op_value (o := ⟨some 66, Op.load 26 (Operand.tmp 4), _, _, _, _⟩) (x := .agg #[.int .i64 n.p, .int .i64 n.g, .slice na n.ag.length nc]) rfl rfl (by clear hA HS hN hO hE hZ hU hEQ; simp only [execOp]; go_simp) ⟨_, rfl, (fun h => by cases h), rfl, hI, fun _ _ _ _ h => h⟩
    · intro ll bb w' hs hlf hN hO hf hI hA
      clear hi'
      have q66 : bb.tmps[66]? = some _ := hf.tmp (k := 1) rfl (by rw [ha]; decide) (hA 1 (by kernel_rfl))
      refine Rg.op_call (o := ⟨some 67, Op.call { callee := Callee.value (Operand.func 11), args := #[(Operand.tmp 66)], argTypes := _ }, _, _, _, _⟩) rfl rfl (by clear hA HS hN hO hE hZ hU hEQ; simp only [execOp, resolve]; go_simp) (hU w' hI) ?_
      rintro e w2 ⟨G, h1, h2, rfl, h3, hb2⟩
      exact ⟨_, rfl, _, rfl, (fun h => by cases h), ⟨G, rfl, h3⟩, onto hI hb2, fun k9 y9 _ _ h => HS hb2 k9 y9 h⟩
    · intro ll bb w' hs hlf hN hO hf hI hA
      clear hi'
      have q65 : bb.tmps[65]? = some _ := hf.tmp (k := 0) rfl (by rw [ha]; decide) (hA 0 (by kernel_rfl))
      obtain ⟨G2, e2, hO2⟩ := hA 2 (by kernel_rfl)
      have q67 : bb.tmps[67]? = some _ := hf.tmp (k := 2) rfl (by rw [ha]; decide) e2
      refine Rg.op_call (o := ⟨some 68, Op.call { callee := Callee.value (Operand.func 14), args := #[(Operand.tmp 65), (Operand.tmp 67)], argTypes := _ }, _, _, _, _⟩) rfl rfl (by clear hA HS hN hO hE hZ hU hEQ; simp only [execOp, resolve]; go_simp) (hEQ G2 w' hI hO2) ?_
      rintro e w2 ⟨rfl, hb2⟩
      exact ⟨_, rfl, _, rfl, (fun h => by cases h), rfl, onto hI hb2, fun k9 y9 _ _ h => HS hb2 k9 y9 h⟩
    · intro ll bb w' hs hlf hN hO hf hI hA
      clear hi'
      have q68 : bb.tmps[68]? = some _ := hf.tmp (k := 3) rfl (by rw [ha]; decide) (hA 3 (by kernel_rfl))
      exact Rg.op_value (o := ⟨some 69, Op.unOp UnOp.not 4 (Operand.tmp 68), _, _, _, _⟩) (x := .bool false) rfl rfl (by clear hA HS hN hO hE hZ hU hEQ; simp only [execOp]; go_simp) ⟨_, rfl, (fun h => by cases h), rfl, hI, fun _ _ _ _ h => h⟩

theorem dLb16_0 : Rg.dstAt (Rg.opsOf Try.f5 16) 0 = some 65 := by kernel_rfl
theorem dLb16_1 : Rg.dstAt (Rg.opsOf Try.f5 16) 1 = some 66 := by kernel_rfl
theorem dLb16_2 : Rg.dstAt (Rg.opsOf Try.f5 16) 2 = some 67 := by kernel_rfl
theorem dLb16_3 : Rg.dstAt (Rg.opsOf Try.f5 16) 3 = some 68 := by kernel_rfl
theorem dLb16_4 : Rg.dstAt (Rg.opsOf Try.f5 16) 4 = some 69 := by kernel_rfl
theorem layLb16 {a b : Act} (hf : Rg.Fr (Rg.opsOf Try.f5 16) a b) : b = (((((a.put (some 65) (Rg.out (Rg.opsOf Try.f5 16) b 0)).put (some 66) (Rg.out (Rg.opsOf Try.f5 16) b 1)).put (some 67) (Rg.out (Rg.opsOf Try.f5 16) b 2)).put (some 68) (Rg.out (Rg.opsOf Try.f5 16) b 3)).put (some 69) (Rg.out (Rg.opsOf Try.f5 16) b 4)) := by
  have h := hf.chain
  rw [sizeLb16, show List.range 5 = [0, 1, 2, 3, 4] from by decide] at h
  simp only [List.foldl_cons, List.foldl_nil, dLb16_0, dLb16_1, dLb16_2, dLb16_3, dLb16_4] at h
  exact h

def FLb31 (w9 : World) (B C : Nat) (D : List Ut) (ad9 : Option Addr) (dl dc : Nat) (n : Nd) (na : Option Addr) (nc : Nat) (a9 : Da) (R : List Ut) (cd : Int) (i9 : Nat) (v : Value) (w : World) : Prop :=
  match i9 with
  | 0 => v = .slice ad9 dl dc
  | 1 => ∃ G1, v = .slice (some ⟨G1, 0, none⟩) D.length D.length ∧ URw w (.slice (some ⟨G1, 0, none⟩) D.length D.length) D
  | 2 => v = .agg #[.int .i64 n.p, .int .i64 n.g, .slice na n.ag.length nc]
  | 3 => ∃ G2, v = .agg #[.int .i64 n.p, .int .i64 n.g, .slice (some ⟨G2, 0, none⟩) n.ag.length n.ag.length] ∧ Out 1 csI w G2 n.ag.length n.ag n.ag.length
  | 4 => v = .agg #[.int .i64 a9.k, .int .i64 a9.id, .int .i64 a9.t]
  | 5 => v = .agg #[.int .i64 a9.k, .int .i64 a9.id, .int .i64 a9.t]
  | 6 => ∃ M ad c hi, v = .tuple #[.slice ad R.length c, .int .i64 cd] ∧ BDR w w9.heap.size hi R ad c M ∧ hi ≤ w.heap.size
  | 7 => ∃ M ad c hi, v = .tuple #[.slice ad R.length c, .int .i64 cd] ∧ BDR w w9.heap.size hi R ad c M ∧ hi ≤ w.heap.size
  | 8 => ∃ M ad c hi, v = .slice ad R.length c ∧ BDR w w9.heap.size hi R ad c M ∧ hi ≤ w.heap.size
  | 9 => v = .int .i64 cd
  | 10 => ∃ M ad c hi, v = .slice ad R.length c ∧ BDR w w9.heap.size hi R ad c M ∧ hi ≤ w.heap.size
  | 11 => v = .int .i64 cd
  | _ => True
theorem sizeLb31 : (Rg.opsOf Try.f5 31).size = 12 := by kernel_rfl

set_option maxRecDepth 20000 in
set_option maxHeartbeats 8000000 in
theorem regLb31 {Q : Exit → Act → World → Prop} {a : Act} {w9 : World} {B C : Nat} {D : List Ut} {ad9 : Option Addr} {dl dc : Nat} {n : Nd} {na : Option Addr} {nc : Nat} {a9 : Da} {R : List Ut} {cd : Int} (ha : a.tmps.size = 127)
    (k0 : a.tmps[0]? = some (.slice ad9 dl dc)) (k4 : a.tmps[4]? = some (.pointer (some ⟨B, 0, none⟩))) (k5 : a.tmps[5]? = some (.pointer (some ⟨C, 0, none⟩))) (hE : PB w9 B #[.int .i64 n.p, .int .i64 n.g, .slice na n.ag.length nc] 26)(hX : PB w9 C #[.int .i64 a9.k, .int .i64 a9.id, .int .i64 a9.t] 49)(hT : ∀ W, Below w9.heap.size w9 W → Calls Try.prog 17 #[.slice ad9 dl dc] W fun e W' => ∃ G, e = .returned (.slice (some ⟨G, 0, none⟩) D.length D.length) ∧ URw W' (.slice (some ⟨G, 0, none⟩) D.length D.length) D ∧ Below W.heap.size W W')(hU : ∀ W, Below w9.heap.size w9 W → Calls Try.prog 11 #[.agg #[.int .i64 n.p, .int .i64 n.g, .slice na n.ag.length nc]] W fun e W' => ∃ G, W.heap.size ≤ G ∧ G < W'.heap.size ∧ e = .returned (.agg #[.int .i64 n.p, .int .i64 n.g, .slice (some ⟨G, 0, none⟩) n.ag.length n.ag.length]) ∧ Out 1 csI W' G n.ag.length n.ag n.ag.length ∧ Below W.heap.size W W')(hV : ∀ W, Calls Try.prog 26 #[.agg #[.int .i64 a9.k, .int .i64 a9.id, .int .i64 a9.t]] W fun e W' => e = .returned (.agg #[.int .i64 a9.k, .int .i64 a9.id, .int .i64 a9.t]) ∧ Below W.heap.size W W')(hSP : ∀ G1 G2 W, Below w9.heap.size w9 W → URw W (.slice (some ⟨G1, 0, none⟩) D.length D.length) D → Out 1 csI W G2 n.ag.length n.ag n.ag.length → Calls Try.prog 27 #[.slice (some ⟨G1, 0, none⟩) D.length D.length, .agg #[.int .i64 n.p, .int .i64 n.g, .slice (some ⟨G2, 0, none⟩) n.ag.length n.ag.length], .agg #[.int .i64 a9.k, .int .i64 a9.id, .int .i64 a9.t]] W fun e W' => ∃ M ad c, e = .returned (.tuple #[.slice ad R.length c, .int .i64 cd]) ∧ BDR W' w9.heap.size W'.heap.size R ad c M ∧ Below W.heap.size W W')
    (hend : ∀ b' w', Rg.Fr (Rg.opsOf Try.f5 31) a b' → Below w9.heap.size w9 w' → (∃ M ad c hi, Rg.out (Rg.opsOf Try.f5 31) b' 10 = .slice ad R.length c ∧ BDR w' w9.heap.size hi R ad c M ∧ hi ≤ w'.heap.size) → Rg.out (Rg.opsOf Try.f5 31) b' 11 = .int .i64 cd → Q .normal b' w') :
    (Code.region 31 (Rg.opsOf Try.f5 31) true).wp Try.prog Q a w9 := by
  refine Rg.region_set3 (by kernel_rfl) (fun _ w' => Below w9.heap.size w9 w') (FLb31 w9 B C D ad9 dl dc n na nc a9 R cd) (by rw [ha, sizeLb31]; kernel_rfl) (st_drew (Below.refl _ _)) ?_ ?_
  case refine_2 =>
    intro l b' w' hf hall hI hA
    rw [sizeLb31] at hA
    exact hend b' w' hf hI (hA 10 (by decide)) (hA 11 (by decide))
  case refine_1 =>
    clear hend
    have HS : ∀ {w w' : World}, Below w.heap.size w w' → ∀ k9 y9, FLb31 w9 B C D ad9 dl dc n na nc a9 R cd k9 y9 w → FLb31 w9 B C D ad9 dl dc n na nc a9 R cd k9 y9 w' := by
      intro w w' hb k9 y9 h
      rcases (show k9 = 0 ∨ k9 = 1 ∨ k9 = 2 ∨ k9 = 3 ∨ k9 = 4 ∨ k9 = 5 ∨ k9 = 6 ∨ k9 = 7 ∨ k9 = 8 ∨ k9 = 9 ∨ k9 = 10 ∨ k9 = 11 ∨ 12 ≤ k9 by omega) with rfl | rfl | rfl | rfl | rfl | rfl | rfl | rfl | rfl | rfl | rfl | rfl | hk9
      · exact h
      · obtain ⟨G1, e9, hO1⟩ := h
        exact ⟨_, e9, hO1.below hb⟩
      · exact h
      · obtain ⟨G2, e9, hO2⟩ := h
        exact ⟨_, e9, hO2.below hb⟩
      · exact h
      · exact h
      · obtain ⟨M, ad, c, hi, e9, hB1, hB2⟩ := h
        exact ⟨_, _, _, _, e9, hB1.below hb, Nat.le_trans hB2 hb.size⟩
      · obtain ⟨M, ad, c, hi, e9, hB1, hB2⟩ := h
        exact ⟨_, _, _, _, e9, hB1.below hb, Nat.le_trans hB2 hb.size⟩
      · obtain ⟨M, ad, c, hi, e9, hB1, hB2⟩ := h
        exact ⟨_, _, _, _, e9, hB1.below hb, Nat.le_trans hB2 hb.size⟩
      · exact h
      · obtain ⟨M, ad, c, hi, e9, hB1, hB2⟩ := h
        exact ⟨_, _, _, _, e9, hB1.below hb, Nat.le_trans hB2 hb.size⟩
      · exact h
      · unfold FLb31
        split
        · omega
        · omega
        · omega
        · omega
        · omega
        · omega
        · omega
        · omega
        · omega
        · omega
        · omega
        · omega
        · trivial
    intro i' hi'
    rw [sizeLb31] at hi'
    rcases (show i' = 0 ∨ i' = 1 ∨ i' = 2 ∨ i' = 3 ∨ i' = 4 ∨ i' = 5 ∨ i' = 6 ∨ i' = 7 ∨ i' = 8 ∨ i' = 9 ∨ i' = 10 ∨ i' = 11 by omega) with rfl | rfl | rfl | rfl | rfl | rfl | rfl | rfl | rfl | rfl | rfl | rfl
    · intro ll bb w' hs hlf hN hO hf hI hA
      clear hi'
      have q0 := hf.kept (s := 0) (by rw [sizeLb31]; kernel_rfl) k0
      exact Rg.op_value (o := ⟨some 101, Op.move (Operand.tmp 0), _, _, _, _⟩) (x := .slice ad9 dl dc) rfl rfl (by clear hA HS hN hO hX hE hT hU hV hSP; simp only [execOp]; go_simp) ⟨_, rfl, (fun h => by cases h), rfl, hI, fun _ _ _ _ h => h⟩
    · intro ll bb w' hs hlf hN hO hf hI hA
      clear hi'
      have q101 : bb.tmps[101]? = some _ := hf.tmp (k := 0) rfl (by rw [ha]; decide) (hA 0 (by kernel_rfl))
      refine Rg.op_call (o := ⟨some 102, Op.call { callee := Callee.value (Operand.func 17), args := #[(Operand.tmp 101)], argTypes := _ }, _, _, _, _⟩) rfl rfl (by clear hA HS hN hO hX hE hT hU hV hSP; simp only [execOp, resolve]; go_simp) (hT w' hI) ?_
      rintro e w2 ⟨G, rfl, h3, hb2⟩
      exact ⟨_, rfl, _, rfl, (fun h => by cases h), ⟨G, rfl, h3⟩, onto hI hb2, fun k9 y9 _ _ h => HS hb2 k9 y9 h⟩
    · intro ll bb w' hs hlf hN hO hf hI hA
      clear hi'
      have q4 := hf.kept (s := 4) (by rw [sizeLb31]; kernel_rfl) k4
      obtain ⟨d0, d1, d2⟩ := (hE.below hI).three
      exact Rg.op_value (o := ⟨some 103, Op.load 26 (Operand.tmp 4), _, _, _, _⟩) (x := .agg #[.int .i64 n.p, .int .i64 n.g, .slice na n.ag.length nc]) rfl rfl (by clear hA HS hN hO hX hE hT hU hV hSP; simp only [execOp]; go_simp) ⟨_, rfl, (fun h => by cases h), rfl, hI, fun _ _ _ _ h => h⟩
    · intro ll bb w' hs hlf hN hO hf hI hA
      clear hi'
      have q103 : bb.tmps[103]? = some _ := hf.tmp (k := 2) rfl (by rw [ha]; decide) (hA 2 (by kernel_rfl))
      refine Rg.op_call (o := ⟨some 104, Op.call { callee := Callee.value (Operand.func 11), args := #[(Operand.tmp 103)], argTypes := _ }, _, _, _, _⟩) rfl rfl (by clear hA HS hN hO hX hE hT hU hV hSP; simp only [execOp, resolve]; go_simp) (hU w' hI) ?_
      rintro e w2 ⟨G, h1, h2, rfl, h3, hb2⟩
      exact ⟨_, rfl, _, rfl, (fun h => by cases h), ⟨G, rfl, h3⟩, onto hI hb2, fun k9 y9 _ _ h => HS hb2 k9 y9 h⟩
    · intro ll bb w' hs hlf hN hO hf hI hA
      clear hi'
      have q5 := hf.kept (s := 5) (by rw [sizeLb31]; kernel_rfl) k5
      obtain ⟨b0, b1, b2⟩ := (hX.below hI).three
      exact Rg.op_value (o := ⟨some 105, Op.load 49 (Operand.tmp 5), _, _, _, _⟩) (x := .agg #[.int .i64 a9.k, .int .i64 a9.id, .int .i64 a9.t]) rfl rfl (by clear hA HS hN hO hX hE hT hU hV hSP; simp only [execOp]; go_simp) ⟨_, rfl, (fun h => by cases h), rfl, hI, fun _ _ _ _ h => h⟩
    · intro ll bb w' hs hlf hN hO hf hI hA
      clear hi'
      have q105 : bb.tmps[105]? = some _ := hf.tmp (k := 4) rfl (by rw [ha]; decide) (hA 4 (by kernel_rfl))
      refine Rg.op_call (o := ⟨some 106, Op.call { callee := Callee.value (Operand.func 26), args := #[(Operand.tmp 105)], argTypes := _ }, _, _, _, _⟩) rfl rfl (by clear hA HS hN hO hX hE hT hU hV hSP; simp only [execOp, resolve]; go_simp) (hV w') ?_
      rintro e w2 ⟨rfl, hb2⟩
      exact ⟨_, rfl, _, rfl, (fun h => by cases h), rfl, onto hI hb2, fun k9 y9 _ _ h => HS hb2 k9 y9 h⟩
    · intro ll bb w' hs hlf hN hO hf hI hA
      clear hi'
      obtain ⟨G1, e1, hO1⟩ := hA 1 (by kernel_rfl)
      have q102 : bb.tmps[102]? = some _ := hf.tmp (k := 1) rfl (by rw [ha]; decide) e1
      obtain ⟨G2, e3, hO2⟩ := hA 3 (by kernel_rfl)
      have q104 : bb.tmps[104]? = some _ := hf.tmp (k := 3) rfl (by rw [ha]; decide) e3
      have q106 : bb.tmps[106]? = some _ := hf.tmp (k := 5) rfl (by rw [ha]; decide) (hA 5 (by kernel_rfl))
      refine Rg.op_call (o := ⟨some 107, Op.call { callee := Callee.value (Operand.func 27), args := #[(Operand.tmp 102), (Operand.tmp 104), (Operand.tmp 106)], argTypes := _ }, _, _, _, _⟩) rfl rfl (by clear hA HS hN hO hX hE hT hU hV hSP; simp only [execOp, resolve]; go_simp) (hSP G1 G2 w' hI hO1 hO2) ?_
      rintro e w2 ⟨M, ad, c, rfl, hB, hb2⟩
      exact ⟨_, rfl, _, rfl, (fun h => by cases h), ⟨M, ad, c, _, rfl, hB, Nat.le_refl _⟩, onto hI hb2, fun k9 y9 _ _ h => HS hb2 k9 y9 h⟩
    · intro ll bb w' hs hlf hN hO hf hI hA
      clear hi'
      obtain ⟨M, ad, c, hi, e6, hB1, hB2⟩ := hA 6 (by kernel_rfl)
      have q107 : bb.tmps[107]? = some _ := hf.tmp (k := 6) rfl (by rw [ha]; decide) e6
      exact Rg.op_value (o := ⟨some 100, Op.move (Operand.tmp 107), _, _, _, _⟩) (x := .tuple #[.slice ad R.length c, .int .i64 cd]) rfl rfl (by clear hA HS hN hO hX hE hT hU hV hSP; simp only [execOp]; go_simp) ⟨_, rfl, (fun h => by cases h), ⟨M, ad, c, hi, rfl, hB1, hB2⟩, hI, fun _ _ _ _ h => h⟩
    · intro ll bb w' hs hlf hN hO hf hI hA
      clear hi'
      obtain ⟨M, ad, c, hi, e7, hB1, hB2⟩ := hA 7 (by kernel_rfl)
      have q100 : bb.tmps[100]? = some _ := hf.tmp (k := 7) rfl (by rw [ha]; decide) e7
      exact Rg.op_value (o := ⟨some 108, Op.extract (Operand.tmp 100) 0, _, _, _, _⟩) (x := .slice ad R.length c) rfl rfl (by clear hA HS hN hO hX hE hT hU hV hSP; simp only [execOp]; go_simp) ⟨_, rfl, (fun h => by cases h), ⟨M, ad, c, hi, rfl, hB1, hB2⟩, hI, fun _ _ _ _ h => h⟩
    · intro ll bb w' hs hlf hN hO hf hI hA
      clear hi'
      obtain ⟨M, ad, c, hi, e7, hB1, hB2⟩ := hA 7 (by kernel_rfl)
      have q100 : bb.tmps[100]? = some _ := hf.tmp (k := 7) rfl (by rw [ha]; decide) e7
      exact Rg.op_value (o := ⟨some 109, Op.extract (Operand.tmp 100) 1, _, _, _, _⟩) (x := .int .i64 cd) rfl rfl (by clear hA HS hN hO hX hE hT hU hV hSP; simp only [execOp]; go_simp) ⟨_, rfl, (fun h => by cases h), rfl, hI, fun _ _ _ _ h => h⟩
    · intro ll bb w' hs hlf hN hO hf hI hA
      clear hi'
      obtain ⟨M, ad, c, hi, e8, hB1, hB2⟩ := hA 8 (by kernel_rfl)
      have q108 : bb.tmps[108]? = some _ := hf.tmp (k := 8) rfl (by rw [ha]; decide) e8
      exact Rg.op_value (o := ⟨some 17, Op.assign (Operand.tmp 108), _, _, _, _⟩) (x := .slice ad R.length c) rfl rfl (by clear hA HS hN hO hX hE hT hU hV hSP; simp only [execOp]; go_simp) ⟨_, rfl, (fun h => by cases h), ⟨M, ad, c, hi, rfl, hB1, hB2⟩, hI, fun _ _ _ _ h => h⟩
    · intro ll bb w' hs hlf hN hO hf hI hA
      clear hi'
      have q109 : bb.tmps[109]? = some _ := hf.tmp (k := 9) rfl (by rw [ha]; decide) (hA 9 (by kernel_rfl))
      exact Rg.op_value (o := ⟨some 18, Op.assign (Operand.tmp 109), _, _, _, _⟩) (x := .int .i64 cd) rfl rfl (by clear hA HS hN hO hX hE hT hU hV hSP; simp only [execOp]; go_simp) ⟨_, rfl, (fun h => by cases h), rfl, hI, fun _ _ _ _ h => h⟩

theorem dLb31_0 : Rg.dstAt (Rg.opsOf Try.f5 31) 0 = some 101 := by kernel_rfl
theorem dLb31_1 : Rg.dstAt (Rg.opsOf Try.f5 31) 1 = some 102 := by kernel_rfl
theorem dLb31_2 : Rg.dstAt (Rg.opsOf Try.f5 31) 2 = some 103 := by kernel_rfl
theorem dLb31_3 : Rg.dstAt (Rg.opsOf Try.f5 31) 3 = some 104 := by kernel_rfl
theorem dLb31_4 : Rg.dstAt (Rg.opsOf Try.f5 31) 4 = some 105 := by kernel_rfl
theorem dLb31_5 : Rg.dstAt (Rg.opsOf Try.f5 31) 5 = some 106 := by kernel_rfl
theorem dLb31_6 : Rg.dstAt (Rg.opsOf Try.f5 31) 6 = some 107 := by kernel_rfl
theorem dLb31_7 : Rg.dstAt (Rg.opsOf Try.f5 31) 7 = some 100 := by kernel_rfl
theorem dLb31_8 : Rg.dstAt (Rg.opsOf Try.f5 31) 8 = some 108 := by kernel_rfl
theorem dLb31_9 : Rg.dstAt (Rg.opsOf Try.f5 31) 9 = some 109 := by kernel_rfl
theorem dLb31_10 : Rg.dstAt (Rg.opsOf Try.f5 31) 10 = some 17 := by kernel_rfl
theorem dLb31_11 : Rg.dstAt (Rg.opsOf Try.f5 31) 11 = some 18 := by kernel_rfl
theorem layLb31 {a b : Act} (hf : Rg.Fr (Rg.opsOf Try.f5 31) a b) : b = ((((((((((((a.put (some 101) (Rg.out (Rg.opsOf Try.f5 31) b 0)).put (some 102) (Rg.out (Rg.opsOf Try.f5 31) b 1)).put (some 103) (Rg.out (Rg.opsOf Try.f5 31) b 2)).put (some 104) (Rg.out (Rg.opsOf Try.f5 31) b 3)).put (some 105) (Rg.out (Rg.opsOf Try.f5 31) b 4)).put (some 106) (Rg.out (Rg.opsOf Try.f5 31) b 5)).put (some 107) (Rg.out (Rg.opsOf Try.f5 31) b 6)).put (some 100) (Rg.out (Rg.opsOf Try.f5 31) b 7)).put (some 108) (Rg.out (Rg.opsOf Try.f5 31) b 8)).put (some 109) (Rg.out (Rg.opsOf Try.f5 31) b 9)).put (some 17) (Rg.out (Rg.opsOf Try.f5 31) b 10)).put (some 18) (Rg.out (Rg.opsOf Try.f5 31) b 11)) := by
  have h := hf.chain
  rw [sizeLb31, show List.range 12 = [0, 1, 2, 3, 4, 5, 6, 7, 8, 9, 10, 11] from by decide] at h
  simp only [List.foldl_cons, List.foldl_nil, dLb31_0, dLb31_1, dLb31_2, dLb31_3, dLb31_4, dLb31_5, dLb31_6, dLb31_7, dLb31_8, dLb31_9, dLb31_10, dLb31_11] at h
  exact h
end Go.Proofs.Ytaidhcbchpcemab
