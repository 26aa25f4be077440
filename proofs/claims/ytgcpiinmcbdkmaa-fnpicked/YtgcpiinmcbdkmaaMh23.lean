/-
  Merged: Q17.
-/
import Derived.Test.YtgcpiinmcbdkmaaMh22
namespace Go.Proofs.Ytgcpiinmcbdkmaa
open Go.RowKit Va Bl
set_option linter.all false
def FFt6 (B C g off n cap i : Nat) (x : Ut) (np ng y : Int) (tn : Value) (ag : List Int) (i9 : Nat) (v : Value) (w : World) : Prop :=
  match i9 with
  | 0 => v = .pointer (some ⟨C, 2, none⟩)
  | 1 => v = tn
  | 2 => v = .pointer (some ⟨B, 2, none⟩)
  | 3 => v = .slice (some ⟨g, off, none⟩) n cap
  | 4 => v = .int .i64 (i : Nat)
  | 5 => v = .pointer (some ⟨g, off + i, none⟩)
  | 6 => v = .int .i64 y
  | 7 => v = .bool (hasB ag y)
  | _ => True
theorem sizeFt6 : (Rg.opsOf Try.f53 6).size = 8 := by kernel_rfl
set_option maxRecDepth 20000 in
set_option maxHeartbeats 8000000 in
theorem regFt6 {Q : Exit → Act → World → Prop} {a : Act} {w9 : World} {B C g off n cap i : Nat} {x : Ut} {np ng y : Int} {tn : Value} {ag : List Int} (ha : a.tmps.size = 37)
    (k2 : a.tmps[2]? = some (.pointer (some ⟨B, 0, none⟩))) (k3 : a.tmps[3]? = some (.pointer (some ⟨C, 0, none⟩))) (k5 : a.tmps[5]? = some (.int .i64 (i : Nat))) (hX : PB w9 B #[.int .i64 x.id, .int .i64 x.grp, .slice (some ⟨g, off, none⟩) n cap, .int .i64 x.til, .int .i64 x.st, .int .i64 x.fr] 81) (hE : PB w9 C #[.int .i64 np, .int .i64 ng, tn] 27) (hin : i < n) (hgl : g < w9.heap.size) (y0 : w9.cell? ⟨g, off + i, none⟩ = some (.int .i64 y)) (hK : ∀ W, Below w9.heap.size w9 W → Calls Try.prog 96 #[tn, .int .i64 y] W fun e W' => e = .returned (.bool (hasB ag y)) ∧ W' = W)
    (hend : ∀ b' w', Rg.Fr (Rg.opsOf Try.f53 6) a b' → Below w9.heap.size w9 w' → Rg.out (Rg.opsOf Try.f53 6) b' 7 = .bool (hasB ag y) → Q .normal b' w') :
    (Code.region 6 (Rg.opsOf Try.f53 6) true).wp Try.prog Q a w9 := by
  refine Rg.region_set3 (by kernel_rfl) (fun _ w' => Below w9.heap.size w9 w') (FFt6 B C g off n cap i x np ng y tn ag) (by rw [ha, sizeFt6]; kernel_rfl) (st_drew (Below.refl _ _)) ?_ ?_
  case refine_2 =>
    intro l b' w' hf hall hI hA
    rw [sizeFt6] at hA
    exact hend b' w' hf hI (hA 7 (by decide))
  case refine_1 =>
    clear hend
    have HS : ∀ {w w' : World}, Below w.heap.size w w' → ∀ k9 y9, FFt6 B C g off n cap i x np ng y tn ag k9 y9 w → FFt6 B C g off n cap i x np ng y tn ag k9 y9 w' := fun hb k9 y9 h => by
      unfold FFt6 at *
      split at h <;> exact h
    intro i' hi'
    rw [sizeFt6] at hi'
    rcases (show i' = 0 ∨ i' = 1 ∨ i' = 2 ∨ i' = 3 ∨ i' = 4 ∨ i' = 5 ∨ i' = 6 ∨ i' = 7 by omega) with rfl | rfl | rfl | rfl | rfl | rfl | rfl | rfl
    · intro ll bb w' hs hlf hN hO hf hI hA
      clear hi'
      have q3 := hf.kept (s := 3) (by rw [sizeFt6]; kernel_rfl) k3
      exact Rg.op_value (o := ⟨some 29, Op.fieldAddr 27 (Operand.tmp 3) 2, _, _, _, _⟩) (x := .pointer (some ⟨C, 2, none⟩)) rfl rfl (by clear hA HS hN hO hX hE hK; simp only [execOp]; go_simp) ⟨_, rfl, (fun h => by cases h), rfl, hI, fun _ _ _ _ h => h⟩
    · intro ll bb w' hs hlf hN hO hf hI hA
      clear hi'
      have q29 : bb.tmps[29]? = some _ := hf.tmp (k := 0) rfl (by rw [ha]; decide) (hA 0 (by kernel_rfl))
      obtain ⟨d0, d1, d2⟩ := (hE.below hI).three
      exact Rg.op_value (o := ⟨some 30, Op.load 25 (Operand.tmp 29), _, _, _, _⟩) (x := tn) rfl rfl (by clear hA HS hN hO hX hE hK; simp only [execOp]; go_simp) ⟨_, rfl, (fun h => by cases h), rfl, hI, fun _ _ _ _ h => h⟩
    · intro ll bb w' hs hlf hN hO hf hI hA
      clear hi'
      have q2 := hf.kept (s := 2) (by rw [sizeFt6]; kernel_rfl) k2
      exact Rg.op_value (o := ⟨some 31, Op.fieldAddr 81 (Operand.tmp 2) 2, _, _, _, _⟩) (x := .pointer (some ⟨B, 2, none⟩)) rfl rfl (by clear hA HS hN hO hX hE hK; simp only [execOp]; go_simp) ⟨_, rfl, (fun h => by cases h), rfl, hI, fun _ _ _ _ h => h⟩
    · intro ll bb w' hs hlf hN hO hf hI hA
      clear hi'
      have q31 : bb.tmps[31]? = some _ := hf.tmp (k := 2) rfl (by rw [ha]; decide) (hA 2 (by kernel_rfl))
      obtain ⟨b0, b1, b2, b3, b4, b5⟩ := (hX.below hI).six
      exact Rg.op_value (o := ⟨some 32, Op.load 25 (Operand.tmp 31), _, _, _, _⟩) (x := .slice (some ⟨g, off, none⟩) n cap) rfl rfl (by clear hA HS hN hO hX hE hK; simp only [execOp]; go_simp) ⟨_, rfl, (fun h => by cases h), rfl, hI, fun _ _ _ _ h => h⟩
    · intro ll bb w' hs hlf hN hO hf hI hA
      clear hi'
      have q0 := hf.kept (s := 5) (by rw [sizeFt6]; kernel_rfl) k5
      exact Rg.op_value (o := ⟨some 33, Op.move (Operand.tmp 5), _, _, _, _⟩) (x := .int .i64 (i : Nat)) rfl rfl (by clear hA HS hN hO hX hE hK; simp only [execOp]; go_simp) ⟨_, rfl, (fun h => by cases h), rfl, hI, fun _ _ _ _ h => h⟩
    · intro ll bb w' hs hlf hN hO hf hI hA
      clear hi'
      have q32 : bb.tmps[32]? = some _ := hf.tmp (k := 3) rfl (by rw [ha]; decide) (hA 3 (by kernel_rfl))
      have q33 : bb.tmps[33]? = some _ := hf.tmp (k := 4) rfl (by rw [ha]; decide) (hA 4 (by kernel_rfl))
      have hi5 : ((i : Nat) : Int) < (n : Int) := by omega
      exact Rg.op_value (o := ⟨some 34, Op.indexAddr 25 (Operand.tmp 32) (Operand.tmp 33), _, _, _, _⟩) (x := .pointer (some ⟨g, off + i, none⟩)) rfl rfl (by clear hA HS hN hO hX hE hK; simp only [execOp]; go_simp) ⟨_, rfl, (fun h => by cases h), rfl, hI, fun _ _ _ _ h => h⟩
    · intro ll bb w' hs hlf hN hO hf hI hA
      clear hi'
      have q34 : bb.tmps[34]? = some _ := hf.tmp (k := 5) rfl (by rw [ha]; decide) (hA 5 (by kernel_rfl))
      have e8 := (hI.cell (p := ⟨g, off + i, none⟩) hgl).trans y0
      exact Rg.op_value (o := ⟨some 35, Op.load 2 (Operand.tmp 34), _, _, _, _⟩) (x := .int .i64 y) rfl rfl (by clear hA HS hN hO hX hE hK; simp only [execOp]; go_simp) ⟨_, rfl, (fun h => by cases h), rfl, hI, fun _ _ _ _ h => h⟩
    · intro ll bb w' hs hlf hN hO hf hI hA
      clear hi'
      have q30 : bb.tmps[30]? = some _ := hf.tmp (k := 1) rfl (by rw [ha]; decide) (hA 1 (by kernel_rfl))
      have q35 : bb.tmps[35]? = some _ := hf.tmp (k := 6) rfl (by rw [ha]; decide) (hA 6 (by kernel_rfl))
      refine Rg.op_call (o := ⟨some 36, Op.call { callee := Callee.value (Operand.func 96), args := #[(Operand.tmp 30), (Operand.tmp 35)], argTypes := _ }, _, _, _, _⟩) rfl rfl (by clear hA HS hN hO hX hE hK; simp only [execOp, resolve]; go_simp) (hK w' hI) ?_
      rintro e w2 ⟨rfl, rfl⟩
      exact ⟨_, rfl, _, rfl, (fun h => by cases h), rfl, hI, fun _ _ _ _ h => h⟩
theorem dFt6_0 : Rg.dstAt (Rg.opsOf Try.f53 6) 0 = some 29 := by kernel_rfl
theorem dFt6_1 : Rg.dstAt (Rg.opsOf Try.f53 6) 1 = some 30 := by kernel_rfl
theorem dFt6_2 : Rg.dstAt (Rg.opsOf Try.f53 6) 2 = some 31 := by kernel_rfl
theorem dFt6_3 : Rg.dstAt (Rg.opsOf Try.f53 6) 3 = some 32 := by kernel_rfl
theorem dFt6_4 : Rg.dstAt (Rg.opsOf Try.f53 6) 4 = some 33 := by kernel_rfl
theorem dFt6_5 : Rg.dstAt (Rg.opsOf Try.f53 6) 5 = some 34 := by kernel_rfl
theorem dFt6_6 : Rg.dstAt (Rg.opsOf Try.f53 6) 6 = some 35 := by kernel_rfl
theorem dFt6_7 : Rg.dstAt (Rg.opsOf Try.f53 6) 7 = some 36 := by kernel_rfl
theorem layFt6 {a b : Act} (hf : Rg.Fr (Rg.opsOf Try.f53 6) a b) : b = ((((((((a.put (some 29) (Rg.out (Rg.opsOf Try.f53 6) b 0)).put (some 30) (Rg.out (Rg.opsOf Try.f53 6) b 1)).put (some 31) (Rg.out (Rg.opsOf Try.f53 6) b 2)).put (some 32) (Rg.out (Rg.opsOf Try.f53 6) b 3)).put (some 33) (Rg.out (Rg.opsOf Try.f53 6) b 4)).put (some 34) (Rg.out (Rg.opsOf Try.f53 6) b 5)).put (some 35) (Rg.out (Rg.opsOf Try.f53 6) b 6)).put (some 36) (Rg.out (Rg.opsOf Try.f53 6) b 7)) := by
  have h := hf.chain
  rw [sizeFt6, show List.range 8 = [0, 1, 2, 3, 4, 5, 6, 7] from by decide] at h
  simp only [List.foldl_cons, List.foldl_nil, dFt6_0, dFt6_1, dFt6_2, dFt6_3, dFt6_4, dFt6_5, dFt6_6, dFt6_7] at h
  exact h
set_option maxRecDepth 20000 in
set_option maxHeartbeats 4000000 in
theorem ifits_any (x : Ut) (ta : Option Addr) (m tc : Nat) (n : Nd) (na : Option Addr) (nn nc : Nat) (w : World) (h : IRw w (.slice ta m tc) x.ant) (hn : x.ant.length ≤ 1048576) (h' : IRw w (.slice na nn nc) n.ag) (hn' : n.ag.length ≤ 1048576) :
    Calls Try.prog 120 #[aU x (.slice ta m tc), aN n (.slice na nn nc)] w fun e w' => e = .returned (.bool (fitsB x n)) ∧ Below w.heap.size w w' := by
  have k1 := fun W hW => iright_any x ta m tc W hW hn
  have k2 := fun W hW => ineed_any n na nn nc W hW hn'
  have k3 := ired_any x.grp n.g
  have k4 := fun W hW hW' => icontf_any n na nn nc ta m tc x.ant W hW hn' hW' hn
  have HU := hidden (fun W (hW : Below w.heap.size w W) => h.below hW)
  have HN := hidden (fun W (hW : Below w.heap.size w W) => h'.below hW)
  have PU := hidden ((PB.new w #[.int .i64 x.id, .int .i64 x.grp, .slice ta m tc, .int .i64 x.til, .int .i64 x.st, .int .i64 x.fr] 81).alloc (.cells #[.int .i64 n.p, .int .i64 n.g, .slice na nn nc] 27))
  have PN := hidden (PB.new (w.alloc (.cells #[.int .i64 x.id, .int .i64 x.grp, .slice ta m tc, .int .i64 x.til, .int .i64 x.st, .int .i64 x.fr] 81)) #[.int .i64 n.p, .int .i64 n.g, .slice na nn nc] 27)
  simp only [World.size_alloc] at PU PN
  clear h h'
  unfold fitsB freeOf aU aN at *
  generalize unitB x = t1 at *
  generalize needB n = t2 at *
  generalize redB x.grp n.g = t3 at *
  generalize x.ant.any (hasB n.ag) = t4 at *
  rcases t1 with _ | _
  · go_enter Try.func120, Try.ntmps120
    go_wp2_with (with_reducible (first | (refine (k1 _ (HU.out _ (by first | exact bA | exact (by repeat (first | exact Below.refl _ _ | assumption | refine st_drew ?_ | refine st_drewN ?_ _ | refine Below.setCell ?_ (by first | omega | (simp; done) | (simp; omega)) _ | refine Below.alloc ?_ (by first | omega | (simp; done) | (simp; omega)) _))))).mono ?_; rintro e w1 ⟨rfl, hb1⟩; have pU := hidden (PU.out.below hb1); have pN := hidden (PN.out.below hb1); obtain ⟨b0, b1, b2, b3, b4, b5⟩ := pU.out.six; obtain ⟨d0, d1, d2⟩ := pN.out.three; have bA := onto (show Below w.heap.size w _ from by repeat (first | exact Below.refl _ _ | assumption | refine st_drew ?_ | refine st_drewN ?_ _ | refine Below.setCell ?_ (by first | omega | (simp; done) | (simp; omega)) _ | refine Below.alloc ?_ (by first | omega | (simp; done) | (simp; omega)) _)) hb1; clear hb1) | (refine (k2 _ (HN.out _ bA)).mono ?_; rintro e w2 ⟨rfl, hb2⟩; have qU := hidden (pU.out.below hb2); have qN := hidden (pN.out.below hb2); obtain ⟨b0, b1, b2, b3, b4, b5⟩ := qU.out.six; obtain ⟨d0, d1, d2⟩ := qN.out.three; have bB := onto bA hb2; clear hb2) | (refine (k3 _).mono ?_; rintro e w3 ⟨rfl, hw3⟩; obtain rfl := hw3.symm; clear hw3) | (refine (k4 _ (HN.out _ bB) (HU.out _ bB)).mono ?_; rintro e w4 ⟨rfl, hb4⟩; have bC := onto bB hb4; clear hb4)))
    all_goals go_ret
    all_goals exact ⟨ret_boolQ (by simp), bA⟩
  rcases t2 with _ | _
  · go_enter Try.func120, Try.ntmps120
    go_wp2_with (with_reducible (first | (refine (k1 _ (HU.out _ (by first | exact bA | exact (by repeat (first | exact Below.refl _ _ | assumption | refine st_drew ?_ | refine st_drewN ?_ _ | refine Below.setCell ?_ (by first | omega | (simp; done) | (simp; omega)) _ | refine Below.alloc ?_ (by first | omega | (simp; done) | (simp; omega)) _))))).mono ?_; rintro e w1 ⟨rfl, hb1⟩; have pU := hidden (PU.out.below hb1); have pN := hidden (PN.out.below hb1); obtain ⟨b0, b1, b2, b3, b4, b5⟩ := pU.out.six; obtain ⟨d0, d1, d2⟩ := pN.out.three; have bA := onto (show Below w.heap.size w _ from by repeat (first | exact Below.refl _ _ | assumption | refine st_drew ?_ | refine st_drewN ?_ _ | refine Below.setCell ?_ (by first | omega | (simp; done) | (simp; omega)) _ | refine Below.alloc ?_ (by first | omega | (simp; done) | (simp; omega)) _)) hb1; clear hb1) | (refine (k2 _ (HN.out _ bA)).mono ?_; rintro e w2 ⟨rfl, hb2⟩; have qU := hidden (pU.out.below hb2); have qN := hidden (pN.out.below hb2); obtain ⟨b0, b1, b2, b3, b4, b5⟩ := qU.out.six; obtain ⟨d0, d1, d2⟩ := qN.out.three; have bB := onto bA hb2; clear hb2) | (refine (k3 _).mono ?_; rintro e w3 ⟨rfl, hw3⟩; obtain rfl := hw3.symm; clear hw3) | (refine (k4 _ (HN.out _ bB) (HU.out _ bB)).mono ?_; rintro e w4 ⟨rfl, hb4⟩; have bC := onto bB hb4; clear hb4)))
    all_goals go_ret
    all_goals exact ⟨ret_boolQ (by simp), bB⟩
  rcases t3 with _ | _
  · go_enter Try.func120, Try.ntmps120
    go_wp2_with (with_reducible (first | (refine (k1 _ (HU.out _ (by first | exact bA | exact (by repeat (first | exact Below.refl _ _ | assumption | refine st_drew ?_ | refine st_drewN ?_ _ | refine Below.setCell ?_ (by first | omega | (simp; done) | (simp; omega)) _ | refine Below.alloc ?_ (by first | omega | (simp; done) | (simp; omega)) _))))).mono ?_; rintro e w1 ⟨rfl, hb1⟩; have pU := hidden (PU.out.below hb1); have pN := hidden (PN.out.below hb1); obtain ⟨b0, b1, b2, b3, b4, b5⟩ := pU.out.six; obtain ⟨d0, d1, d2⟩ := pN.out.three; have bA := onto (show Below w.heap.size w _ from by repeat (first | exact Below.refl _ _ | assumption | refine st_drew ?_ | refine st_drewN ?_ _ | refine Below.setCell ?_ (by first | omega | (simp; done) | (simp; omega)) _ | refine Below.alloc ?_ (by first | omega | (simp; done) | (simp; omega)) _)) hb1; clear hb1) | (refine (k2 _ (HN.out _ bA)).mono ?_; rintro e w2 ⟨rfl, hb2⟩; have qU := hidden (pU.out.below hb2); have qN := hidden (pN.out.below hb2); obtain ⟨b0, b1, b2, b3, b4, b5⟩ := qU.out.six; obtain ⟨d0, d1, d2⟩ := qN.out.three; have bB := onto bA hb2; clear hb2) | (refine (k3 _).mono ?_; rintro e w3 ⟨rfl, hw3⟩; obtain rfl := hw3.symm; clear hw3) | (refine (k4 _ (HN.out _ bB) (HU.out _ bB)).mono ?_; rintro e w4 ⟨rfl, hb4⟩; have bC := onto bB hb4; clear hb4)))
    all_goals go_ret
    all_goals exact ⟨ret_boolQ (by simp), bB⟩
  go_enter Try.func120, Try.ntmps120
  go_wp2_with (with_reducible (first | (refine (k1 _ (HU.out _ (by first | exact bA | exact (by repeat (first | exact Below.refl _ _ | assumption | refine st_drew ?_ | refine st_drewN ?_ _ | refine Below.setCell ?_ (by first | omega | (simp; done) | (simp; omega)) _ | refine Below.alloc ?_ (by first | omega | (simp; done) | (simp; omega)) _))))).mono ?_; rintro e w1 ⟨rfl, hb1⟩; have pU := hidden (PU.out.below hb1); have pN := hidden (PN.out.below hb1); obtain ⟨b0, b1, b2, b3, b4, b5⟩ := pU.out.six; obtain ⟨d0, d1, d2⟩ := pN.out.three; have bA := onto (show Below w.heap.size w _ from by repeat (first | exact Below.refl _ _ | assumption | refine st_drew ?_ | refine st_drewN ?_ _ | refine Below.setCell ?_ (by first | omega | (simp; done) | (simp; omega)) _ | refine Below.alloc ?_ (by first | omega | (simp; done) | (simp; omega)) _)) hb1; clear hb1) | (refine (k2 _ (HN.out _ bA)).mono ?_; rintro e w2 ⟨rfl, hb2⟩; have qU := hidden (pU.out.below hb2); have qN := hidden (pN.out.below hb2); obtain ⟨b0, b1, b2, b3, b4, b5⟩ := qU.out.six; obtain ⟨d0, d1, d2⟩ := qN.out.three; have bB := onto bA hb2; clear hb2) | (refine (k3 _).mono ?_; rintro e w3 ⟨rfl, hw3⟩; obtain rfl := hw3.symm; clear hw3) | (refine (k4 _ (HN.out _ bB) (HU.out _ bB)).mono ?_; rintro e w4 ⟨rfl, hb4⟩; have bC := onto bB hb4; clear hb4)))
  all_goals go_ret
  all_goals exact ⟨ret_boolQ (by simp), bC⟩
set_option maxRecDepth 20000 in
set_option maxHeartbeats 8000000 in
theorem sfits_any (x : Ut) (ta : Option Addr) (m tc : Nat) (n : Nd) (na : Option Addr) (nn nc : Nat) (w : World) (h : IRw w (.slice ta m tc) x.ant) (hn : x.ant.length ≤ 1048576) (h' : IRw w (.slice na nn nc) n.ag) (hn' : n.ag.length ≤ 1048576) :
    Calls Try.prog 53 #[aU x (.slice ta m tc), aN n (.slice na nn nc)] w fun e w' => e = .returned (.bool (fitsB x n)) ∧ Below w.heap.size w w' := by
  obtain rfl := h.len
  have k1 := fun W hW => sunit_any x ta x.ant.length tc W hW hn
  have k2 := fun W hW => sneed_any n na nn nc W hW hn'
  have k3 := sred_any x.grp n.g
  have K5 := hidden (fun y W hW => shas_any na nn nc n.ag y W hW hn')
  have HU := hidden (fun W (hW : Below w.heap.size w W) => h.below hW)
  have HN := hidden (fun W (hW : Below w.heap.size w W) => h'.below hW)
  have PU := hidden ((PB.new w #[.int .i64 x.id, .int .i64 x.grp, .slice ta x.ant.length tc, .int .i64 x.til, .int .i64 x.st, .int .i64 x.fr] 81).alloc (.cells #[.int .i64 n.p, .int .i64 n.g, .slice na nn nc] 27))
  have PN := hidden (PB.new (w.alloc (.cells #[.int .i64 x.id, .int .i64 x.grp, .slice ta x.ant.length tc, .int .i64 x.til, .int .i64 x.st, .int .i64 x.fr] 81)) #[.int .i64 n.p, .int .i64 n.g, .slice na nn nc] 27)
  simp only [World.size_alloc] at PU PN
  clear h h'
  unfold fitsB freeOf aU aN at *
  generalize unitB x = t1 at *
  generalize needB n = t2 at *
  generalize redB x.grp n.g = t3 at *
  rcases t1 with _ | _
  · go_enter Try.func53, Try.ntmps53
    go_wp2_with (with_reducible (first | (refine (k1 _ (HU.out _ (by first | exact bA | exact (by repeat (first | exact Below.refl _ _ | assumption | refine st_drew ?_ | refine st_drewN ?_ _ | refine Below.setCell ?_ (by first | omega | (simp; done) | (simp; omega)) _ | refine Below.alloc ?_ (by first | omega | (simp; done) | (simp; omega)) _))))).mono ?_; rintro e w1 ⟨rfl, hb1⟩; have pU := hidden (PU.out.below hb1); have pN := hidden (PN.out.below hb1); obtain ⟨b0, b1, b2, b3, b4, b5⟩ := pU.out.six; obtain ⟨d0, d1, d2⟩ := pN.out.three; have bA := onto (show Below w.heap.size w _ from by repeat (first | exact Below.refl _ _ | assumption | refine st_drew ?_ | refine st_drewN ?_ _ | refine Below.setCell ?_ (by first | omega | (simp; done) | (simp; omega)) _ | refine Below.alloc ?_ (by first | omega | (simp; done) | (simp; omega)) _)) hb1; clear hb1) | (refine (k2 _ (HN.out _ bA)).mono ?_; rintro e w2 ⟨rfl, hb2⟩; have qU := hidden (pU.out.below hb2); have qN := hidden (pN.out.below hb2); obtain ⟨b0, b1, b2, b3, b4, b5⟩ := qU.out.six; obtain ⟨d0, d1, d2⟩ := qN.out.three; have bB := onto bA hb2; clear hb2) | (refine (k3 _).mono ?_; rintro e w3 ⟨rfl, hw3⟩; obtain rfl := hw3.symm; clear hw3) | fail))
    all_goals go_ret
    all_goals exact ⟨ret_boolQ (by simp), bA⟩
  rcases t2 with _ | _
  · go_enter Try.func53, Try.ntmps53
    go_wp2_with (with_reducible (first | (refine (k1 _ (HU.out _ (by first | exact bA | exact (by repeat (first | exact Below.refl _ _ | assumption | refine st_drew ?_ | refine st_drewN ?_ _ | refine Below.setCell ?_ (by first | omega | (simp; done) | (simp; omega)) _ | refine Below.alloc ?_ (by first | omega | (simp; done) | (simp; omega)) _))))).mono ?_; rintro e w1 ⟨rfl, hb1⟩; have pU := hidden (PU.out.below hb1); have pN := hidden (PN.out.below hb1); obtain ⟨b0, b1, b2, b3, b4, b5⟩ := pU.out.six; obtain ⟨d0, d1, d2⟩ := pN.out.three; have bA := onto (show Below w.heap.size w _ from by repeat (first | exact Below.refl _ _ | assumption | refine st_drew ?_ | refine st_drewN ?_ _ | refine Below.setCell ?_ (by first | omega | (simp; done) | (simp; omega)) _ | refine Below.alloc ?_ (by first | omega | (simp; done) | (simp; omega)) _)) hb1; clear hb1) | (refine (k2 _ (HN.out _ bA)).mono ?_; rintro e w2 ⟨rfl, hb2⟩; have qU := hidden (pU.out.below hb2); have qN := hidden (pN.out.below hb2); obtain ⟨b0, b1, b2, b3, b4, b5⟩ := qU.out.six; obtain ⟨d0, d1, d2⟩ := qN.out.three; have bB := onto bA hb2; clear hb2) | (refine (k3 _).mono ?_; rintro e w3 ⟨rfl, hw3⟩; obtain rfl := hw3.symm; clear hw3) | fail))
    all_goals go_ret
    all_goals exact ⟨ret_boolQ (by simp), bB⟩
  rcases t3 with _ | _
  · go_enter Try.func53, Try.ntmps53
    go_wp2_with (with_reducible (first | (refine (k1 _ (HU.out _ (by first | exact bA | exact (by repeat (first | exact Below.refl _ _ | assumption | refine st_drew ?_ | refine st_drewN ?_ _ | refine Below.setCell ?_ (by first | omega | (simp; done) | (simp; omega)) _ | refine Below.alloc ?_ (by first | omega | (simp; done) | (simp; omega)) _))))).mono ?_; rintro e w1 ⟨rfl, hb1⟩; have pU := hidden (PU.out.below hb1); have pN := hidden (PN.out.below hb1); obtain ⟨b0, b1, b2, b3, b4, b5⟩ := pU.out.six; obtain ⟨d0, d1, d2⟩ := pN.out.three; have bA := onto (show Below w.heap.size w _ from by repeat (first | exact Below.refl _ _ | assumption | refine st_drew ?_ | refine st_drewN ?_ _ | refine Below.setCell ?_ (by first | omega | (simp; done) | (simp; omega)) _ | refine Below.alloc ?_ (by first | omega | (simp; done) | (simp; omega)) _)) hb1; clear hb1) | (refine (k2 _ (HN.out _ bA)).mono ?_; rintro e w2 ⟨rfl, hb2⟩; have qU := hidden (pU.out.below hb2); have qN := hidden (pN.out.below hb2); obtain ⟨b0, b1, b2, b3, b4, b5⟩ := qU.out.six; obtain ⟨d0, d1, d2⟩ := qN.out.three; have bB := onto bA hb2; clear hb2) | (refine (k3 _).mono ?_; rintro e w3 ⟨rfl, hw3⟩; obtain rfl := hw3.symm; clear hw3) | fail))
    all_goals go_ret
    all_goals exact ⟨ret_boolQ (by simp), bB⟩
  go_enter Try.func53, Try.ntmps53
  go_wp2_with (with_reducible (first | (refine (k1 _ (HU.out _ (by first | exact bA | exact (by repeat (first | exact Below.refl _ _ | assumption | refine st_drew ?_ | refine st_drewN ?_ _ | refine Below.setCell ?_ (by first | omega | (simp; done) | (simp; omega)) _ | refine Below.alloc ?_ (by first | omega | (simp; done) | (simp; omega)) _))))).mono ?_; rintro e w1 ⟨rfl, hb1⟩; have pU := hidden (PU.out.below hb1); have pN := hidden (PN.out.below hb1); obtain ⟨b0, b1, b2, b3, b4, b5⟩ := pU.out.six; obtain ⟨d0, d1, d2⟩ := pN.out.three; have bA := onto (show Below w.heap.size w _ from by repeat (first | exact Below.refl _ _ | assumption | refine st_drew ?_ | refine st_drewN ?_ _ | refine Below.setCell ?_ (by first | omega | (simp; done) | (simp; omega)) _ | refine Below.alloc ?_ (by first | omega | (simp; done) | (simp; omega)) _)) hb1; clear hb1) | (refine (k2 _ (HN.out _ bA)).mono ?_; rintro e w2 ⟨rfl, hb2⟩; have qU := hidden (pU.out.below hb2); have qN := hidden (pN.out.below hb2); obtain ⟨b0, b1, b2, b3, b4, b5⟩ := qU.out.six; obtain ⟨d0, d1, d2⟩ := qN.out.three; have bB := onto bA hb2; clear hb2) | (refine (k3 _).mono ?_; rintro e w3 ⟨rfl, hw3⟩; obtain rfl := hw3.symm; clear hw3) | fail))
  clear k1 k2 k3 b0 b1 b2 b3 b4 b5 d0 d1 d2 pU pN PU PN bA
  go_loopw [5] (fun iv wr => ∃ i : Nat, i ≤ x.ant.length ∧ iv = .int .i64 i ∧ Below w.heap.size w wr ∧ PB wr w.heap.size #[.int .i64 x.id, .int .i64 x.grp, .slice ta x.ant.length tc, .int .i64 x.til, .int .i64 x.st, .int .i64 x.fr] 81 ∧ PB wr (w.heap.size + 1) #[.int .i64 n.p, .int .i64 n.g, .slice na nn nc] 27 ∧ Hid ((x.ant.take i).any (hasB n.ag) = false)) (fun iv _ => x.ant.length - (intOf iv).toNat)
  case atStart => exact ⟨0, Nat.zero_le _, rfl, bB, qU.out, qN.out, rfl⟩
  case round =>
    clear qU qN bB
    obtain ⟨i, hi, rfl, hb, pu, pn, hok⟩ := hrel
    obtain ⟨b0, b1, b2, b3, b4, b5⟩ := pu.six
    by_cases hlt : i < x.ant.length
    · have hlti : (i : Int) < (x.ant.length : Int) := by omega
      obtain ⟨y, hy⟩ := some_of x.ant i hlt
      obtain ⟨g, off, rfl, hg, hcs⟩ := (HU.out wr hb).at hy
      have c0 := hidden (hcs i y hy)
      have PUh := hidden pu
      have PNh := hidden pn
      have HX := hidden hy
      have HK := hidden (fun W (hW : Below wr.heap.size wr W) => K5.out y W (HN.out W (onto hb hW)))
      clear hy hcs pu pn
      go_upto_region 6 with fail
      refine regFt6 (x := x) (y := y) (ag := n.ag) rfl rfl rfl rfl PUh.out PNh.out hlt hg c0.out HK.out ?_
      intro b' w3 hf hb3 hv
      rw [layFt6 hf, hv]
      clear hv hf c0 HK b0 b1 b2 b3 b4 b5
      generalize Rg.out (Rg.opsOf Try.f53 6) b' 0 = y0
      generalize Rg.out (Rg.opsOf Try.f53 6) b' 1 = y1
      generalize Rg.out (Rg.opsOf Try.f53 6) b' 2 = y2
      generalize Rg.out (Rg.opsOf Try.f53 6) b' 3 = y3
      generalize Rg.out (Rg.opsOf Try.f53 6) b' 4 = y4
      generalize Rg.out (Rg.opsOf Try.f53 6) b' 5 = y5
      generalize Rg.out (Rg.opsOf Try.f53 6) b' 6 = y6
      have HB3 := hidden (onto hb hb3)
      have PU3 := hidden (PUh.out.below hb3)
      have PN3 := hidden (PNh.out.below hb3)
      clear hb3 hb PUh PNh
      go_frame
      cases hp : hasB n.ag y with
      | true =>
        have HY : Hid (x.ant.any (hasB n.ag) = true) := any_trueQ HX.out hp
        clear hp
        go_wp2_with fail
        go_ret
        exact ⟨ret_boolQ (by rw [HY.out]; rfl), HB3.out⟩
      | false =>
        have HZ : Hid ((x.ant.take (i + 1)).any (hasB n.ag) = false) := any_takeQ hok.out HX.out hp
        clear hp
        go_wp2_with fail
        go_roundw
        case rel => exact ⟨i + 1, by omega, rfl, HB3.out, PU3.out, PN3.out, HZ⟩
        case measure => simp [intOf]; omega
    · have hlti : ¬ (i : Int) < (x.ant.length : Int) := by omega
      have hil : i = x.ant.length := by omega
      subst hil
      have HY : Hid (x.ant.any (hasB n.ag) = false) := by have := hok.out; rw [List.take_length] at this; exact this
      go_wp2_with fail
      go_ret
      exact ⟨ret_boolQ (by rw [HY.out]; rfl), hb⟩
end Go.Proofs.Ytgcpiinmcbdkmaa
