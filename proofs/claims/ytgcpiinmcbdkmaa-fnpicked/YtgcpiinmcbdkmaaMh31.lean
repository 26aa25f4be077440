/-
  Merged: Pk19.
-/
import Derived.Test.YtgcpiinmcbdkmaaMh20
import Derived.Test.YtgcpiinmcbdkmaaMh30
import Derived.Test.YtgcpiinmcbdkmaaMh10
import Derived.Test.YtgcpiinmcbdkmaaMh27
namespace Go.Proofs.Ytgcpiinmcbdkmaa
open Go.RowKit Va Bl Pq
set_option linter.all false
def Gap {α : Type} (M : List α) (j : Nat) (e : List α) : Prop := ∃ z, e = M.take j ++ z :: M.drop j
theorem Gap.start {α : Type} (M : List α) (X : α) : Gap M M.length (M ++ [X]) := ⟨X, by rw [List.take_length, List.drop_length]⟩
theorem Gap.len {α : Type} {M e : List α} {j : Nat} (h : Gap M j e) : e.length = M.length + 1 := by
  obtain ⟨z, rfl⟩ := h
  simp only [List.length_append, List.length_take, List.length_cons, List.length_drop]
  omega
theorem Gap.fill {α : Type} {M e : List α} {j : Nat} (h : Gap M j e) (hj : j ≤ M.length) (X : α) : e.set j X = M.take j ++ X :: M.drop j := by
  obtain ⟨z, rfl⟩ := h
  have hl : (M.take j).length = j := by rw [List.length_take]; omega
  rw [List.set_append_right _ _ (by omega), hl, Nat.sub_self, List.set_cons_zero]
theorem Gap.step {α : Type} [Inhabited α] {M e : List α} {j : Nat} (h : Gap M (j + 1) e) (hj : j < M.length) : at' e j = at' M j ∧ Gap M j (e.set (j + 1) (at' e j)) := by
  have h1 : at' e j = at' M j := by
    obtain ⟨z, rfl⟩ := h
    refine at_of ?_
    rw [List.getElem?_append_left (by rw [List.length_take]; omega), List.getElem?_take, if_pos (by omega)]
    exact at_some hj
  refine ⟨h1, at' M j, ?_⟩
  rw [h1, h.fill (by omega), List.take_add_one, List.getElem?_eq_getElem hj]
  have hm := at_some hj
  rw [List.getElem?_eq_getElem hj] at hm
  rw [Option.some.inj hm, List.drop_eq_getElem_cons hj, Option.some.inj hm]
  simp
theorem Gap.drop {α : Type} [Inhabited α] {M : List α} {j : Nat} {P : α → Prop} (h : ∀ y ∈ M.drop (j + 1), P y) (hj : j < M.length) (hP : P (at' M j)) : ∀ y ∈ M.drop j, P y := by
  have hm := at_some hj
  rw [List.getElem?_eq_getElem hj] at hm
  intro y hy
  rw [List.drop_eq_getElem_cons hj, Option.some.inj hm] at hy
  rcases List.mem_cons.1 hy with rfl | hy
  · exact hP
  · exact h y hy
theorem PB.put6 {W : World} {k G o : Nat} {vs : Array Value} {t : TypeId} (h : PB W k vs t) (hk : G ≠ k) (p : UE) : PB (put6 W G o p) k vs t :=
  (((((h.far hk _ _).far hk _ _).far hk _ _).far hk _ _).far hk _ _).far hk _ _
theorem own_at_base {w : World} {b b' e s G n c : Nat} {xs : List Value} (h : w.ownsRow b e s (.slice (some ⟨G, 0, none⟩) n c) n xs) (hb : b' ≤ G) : w.ownsRow b' e s (.slice (some ⟨G, 0, none⟩) n c) n xs := by
  obtain ⟨q, ⟨h1, _⟩ | ⟨g, cap, cur, h1, hb1, r⟩⟩ := h
  · cases h1
  · simp only [Value.slice.injEq, Option.some.injEq, Addr.mk.injEq, and_true, true_and] at h1
    obtain ⟨rfl, rfl⟩ := h1
    exact ⟨q, .inr ⟨G, c, cur, rfl, hb, r⟩⟩
theorem own_none {w : World} {O t s : Nat} (h : PB w O #[] t) : w.ownsRow O t s (.slice (some ⟨O, 0, none⟩) 0 0) 0 [] :=
  ⟨by simp, .inr ⟨O, 0, #[], rfl, Nat.le_refl _, h, Nat.le_refl _, Nat.zero_le _, by simp, by simp⟩⟩
theorem put_fine {n : Nd} {t : Int} {l : List Ut} {i j : Nat} {x : Ut} {tv : Value} {M : List UE} (hA : Apt l) (hx : l[i]? = some x) (hm : mayB n t x = true)
    (hO : Ord n (M.map Prod.fst)) (hP : (M.map Prod.fst).Perm ((l.take i).filter (mayB n t))) (hj : j ≤ M.length) (hb : ∀ y ∈ M.drop j, befB n x y.1 = true) (ha : j = 0 ∨ befB n x (at' M (j - 1)).1 ≠ true) :
    Ord n ((M.take j ++ (x, tv) :: M.drop j).map Prod.fst) ∧ ((M.take j ++ (x, tv) :: M.drop j).map Prod.fst).Perm ((l.take (i + 1)).filter (mayB n t)) := by
  have e : (M.take j ++ (x, tv) :: M.drop j).map Prod.fst = (M.map Prod.fst).take j ++ x :: (M.map Prod.fst).drop j := by rw [List.map_append, List.map_cons, List.map_take, List.map_drop]
  have hne : ∀ z ∈ M.map Prod.fst, x.id ≠ z.id := fun z hz => by
    have hz2 := (List.mem_filter.1 (hP.mem_iff.1 hz)).1
    obtain ⟨a, ha'⟩ := List.getElem?_of_mem hz2
    rw [List.getElem?_take] at ha'
    split at ha'
    · rename_i hai
      obtain ⟨p1, q1⟩ := List.getElem?_eq_some_iff.1 ha'
      obtain ⟨p2, q2⟩ := List.getElem?_eq_some_iff.1 hx
      have := List.pairwise_iff_getElem.1 hA a i p1 p2 hai
      rw [q1, q2] at this
      exact fun c => this c.symm
    · cases ha'
  rw [e]
  refine ⟨ord_mid hO hne (fun z hz => ?_) ?_, ?_⟩
  · rw [← List.map_drop] at hz
    obtain ⟨y, hy, rfl⟩ := List.mem_map.1 hz
    exact hb y hy
  · rcases ha with ha | ha
    · exact Or.inl ha
    · by_cases h0 : j = 0
      · exact Or.inl h0
      · exact Or.inr ⟨(at' M (j - 1)).1, by rw [List.getElem?_map, at_some (by omega)]; rfl, ha⟩
  · have ef : (l.take (i + 1)).filter (mayB n t) = (l.take i).filter (mayB n t) ++ [x] := by
      rw [List.take_add_one, hx, List.filter_append]; simp [List.filter_cons, hm]
    rw [ef]
    exact (perm_mid _ _ _).trans ((hP.cons x).trans (List.perm_append_singleton x _).symm)
def FSp12 (BX BN G m c j : Nat) (x : Ut) (y : UE) (n : Nd) (tv tn : Value) (r9 : Bool)  (i9 : Nat) (v : Value) (w : World) : Prop :=
  match i9 with
  | 0 => v = .int .i64 (j : Nat)
  | 1 => v = .bool (decide ((0 : Int) < (j : Int)))
  | 2 => v = .bool (decide ((0 : Int) < (j : Int)))
  | 3 => v = cond (true && ((decide ((0 : Int) < (j : Int))) == true)) (.agg #[.int .i64 x.id, .int .i64 x.grp, tv, .int .i64 x.til, .int .i64 x.st, .int .i64 x.fr]) undef
  | 4 => v = cond (true && ((decide ((0 : Int) < (j : Int))) == true)) (.slice (some ⟨G, 0, none⟩) m c) undef
  | 5 => v = cond (true && ((decide ((0 : Int) < (j : Int))) == true)) (.int .i64 (j : Nat)) undef
  | 6 => v = cond (true && ((decide ((0 : Int) < (j : Int))) == true)) (.int .i64 ((j - 1 : Nat))) undef
  | 7 => v = cond (true && ((decide ((0 : Int) < (j : Int))) == true)) (.pointer (some ⟨G, (j - 1) * 6, none⟩)) undef
  | 8 => v = cond (true && ((decide ((0 : Int) < (j : Int))) == true)) (.agg #[.int .i64 y.1.id, .int .i64 y.1.grp, y.2, .int .i64 y.1.til, .int .i64 y.1.st, .int .i64 y.1.fr]) undef
  | 9 => v = cond (true && ((decide ((0 : Int) < (j : Int))) == true)) (.agg #[.int .i64 n.p, .int .i64 n.g, tn]) undef
  | 10 => v = cond (true && ((decide ((0 : Int) < (j : Int))) == true)) (.bool r9) undef
  | 11 => v = .bool ((decide ((0 : Int) < (j : Int))) && r9)
  | _ => True
theorem sizeSp12 : (Rg.opsOf Try.f12 12).size = 12 := by kernel_rfl
set_option maxRecDepth 20000 in
set_option maxHeartbeats 8000000 in
theorem regSp12 {Q : Exit → Act → World → Prop} {a : Act} {w9 : World} {BX BN G m c j : Nat} {x : Ut} {y : UE} {n : Nd} {tv tn : Value} {r9 : Bool}  (ha : a.tmps.size = 113)
    (k13 : a.tmps[13]? = some (.int .i64 (j : Nat))) (k12 : a.tmps[12]? = some (.pointer (some ⟨BX, 0, none⟩))) (k10 : a.tmps[10]? = some (.slice (some ⟨G, 0, none⟩) m c)) (k5 : a.tmps[5]? = some (.pointer (some ⟨BN, 0, none⟩))) (hGl : G < w9.heap.size) (hPX : PB w9 BX #[.int .i64 x.id, .int .i64 x.grp, tv, .int .i64 x.til, .int .i64 x.st, .int .i64 x.fr] 81) (hPN : PB w9 BN #[.int .i64 n.p, .int .i64 n.g, tn] 27) (hy : 0 < j → UC w9 G ((j - 1) * 6) y) (hm0 : 0 < j → j - 1 < m) (hmm : m ≤ 100000) (hwr : 0 < j → IntKind.i64.wrap ((j : Int) - 1) = ((j - 1 : Nat) : Int)) (HK : ∀ W, Calls Try.prog 54 #[.agg #[.int .i64 x.id, .int .i64 x.grp, tv, .int .i64 x.til, .int .i64 x.st, .int .i64 x.fr], .agg #[.int .i64 y.1.id, .int .i64 y.1.grp, y.2, .int .i64 y.1.til, .int .i64 y.1.st, .int .i64 y.1.fr], .agg #[.int .i64 n.p, .int .i64 n.g, tn]] W fun e w' => e = .returned (.bool r9) ∧ Below W.heap.size W w')
    (hend : ∀ b' w', Rg.Fr (Rg.opsOf Try.f12 12) a b' → Below w9.heap.size w9 w' → Rg.out (Rg.opsOf Try.f12 12) b' 11 = .bool ((decide ((0 : Int) < (j : Int))) && r9) → Q .normal b' w') :
    (Code.region 12 (Rg.opsOf Try.f12 12) true).wp Try.prog Q a w9 := by
  refine Rg.region_set3 (by kernel_rfl) (fun _ w' => Below w9.heap.size w9 w') (FSp12 BX BN G m c j x y n tv tn r9) (by rw [ha, sizeSp12]; kernel_rfl) (st_drew (Below.refl _ _)) ?_ ?_
  case refine_2 =>
    intro l b' w' hf hall hI hA
    rw [sizeSp12] at hA
    exact hend b' w' hf hI (hA 11 (by decide))
  case refine_1 =>
    clear hend
    have HS : ∀ {w w' : World}, Below w.heap.size w w' → ∀ k9 y9, FSp12 BX BN G m c j x y n tv tn r9 k9 y9 w → FSp12 BX BN G m c j x y n tv tn r9 k9 y9 w' := fun hb k9 y9 h => by
      unfold FSp12 at *
      split at h <;> exact h
    intro i' hi'
    rw [sizeSp12] at hi'
    rcases (show i' = 0 ∨ i' = 1 ∨ i' = 2 ∨ i' = 3 ∨ i' = 4 ∨ i' = 5 ∨ i' = 6 ∨ i' = 7 ∨ i' = 8 ∨ i' = 9 ∨ i' = 10 ∨ i' = 11 by omega) with rfl | rfl | rfl | rfl | rfl | rfl | rfl | rfl | rfl | rfl | rfl | rfl
    · intro ll bb w' hs hlf hN hO hf hI hA
      clear hi'
      have q0 := hf.kept (s := 13) (by rw [sizeSp12]; kernel_rfl) k13
      exact Rg.op_value (o := ⟨some 67, Op.move (Operand.tmp 13), _, _, _, _⟩) (x := .int .i64 (j : Nat)) rfl rfl (by clear hA HS hN hO HK hPX hPN hy hm0 hwr; simp only [execOp]; go_simp) ⟨_, rfl, (fun h => by cases h), rfl, hI, fun _ _ _ _ h => h⟩
    · intro ll bb w' hs hlf hN hO hf hI hA
      clear hi'
      have q67 : bb.tmps[67]? = some _ := hf.tmp (k := 0) rfl (by rw [ha]; decide) (hA 0 (by kernel_rfl))
      exact Rg.op_value (o := ⟨some 68, Op.binOp BinOp.gtr 3 (Operand.tmp 67) (Operand.const (Value.int .i64 0)) 3, _, _, _, _⟩) (x := .bool (decide ((0 : Int) < (j : Int)))) rfl rfl (by clear hA HS hN hO HK hPX hPN hy hm0 hwr; simp only [execOp]; go_simp) ⟨_, rfl, (fun h => by cases h), rfl, hI, fun _ _ _ _ h => h⟩
    · intro ll bb w' hs hlf hN hO hf hI hA
      clear hi'
      have q68 : bb.tmps[68]? = some _ := hf.tmp (k := 1) rfl (by rw [ha]; decide) (hA 1 (by kernel_rfl))
      exact Rg.op_value (o := ⟨some 69, Op.move (Operand.tmp 68), _, _, _, _⟩) (x := .bool (decide ((0 : Int) < (j : Int)))) rfl rfl (by clear hA HS hN hO HK hPX hPN hy hm0 hwr; simp only [execOp]; go_simp) ⟨_, rfl, (fun h => by cases h), rfl, hI, fun _ _ _ _ h => h⟩
    · intro ll bb w' hs hlf hN hO hf hI hA
      clear hi'
      have qg : bb.tmps[69]? = some (cond true (.bool (decide ((0 : Int) < (j : Int)))) undef) := hf.tmp (k := 2) rfl (by rw [ha]; decide) (hA 2 (by kernel_rfl))
      cases hP : (true && ((decide ((0 : Int) < (j : Int))) == true)) with
      | false => exact Rg.op_none (o := ⟨some 70, _, _, _, _, _⟩) rfl (Rg.unwanted_c (g := 2) rfl rfl qg hP) ⟨_, rfl, (fun h => by cases h), Rg.cond_f hP, hI, fun _ _ _ _ h => h⟩
      | true =>
        have hw := Rg.wanted_c (ops := (Rg.opsOf Try.f12 12)) (o := (Rg.opsOf Try.f12 12)[3]'(by rw [sizeSp12]; decide)) (g := 2) rfl rfl qg hP
        have g0 := Rg.pc_r hP
        have q12 := hf.kept (s := 12) (by rw [sizeSp12]; kernel_rfl) k12
        obtain ⟨x0, x1, x2, x3, x4, x5⟩ := (hPX.below hI).six
        exact Rg.op_value (o := ⟨some 70, Op.load 81 (Operand.tmp 12), _, _, _, _⟩) (x := .agg #[.int .i64 x.id, .int .i64 x.grp, tv, .int .i64 x.til, .int .i64 x.st, .int .i64 x.fr]) rfl hw (by clear hA HS hN hO HK hPX hPN hy hm0 hwr; simp only [execOp]; go_simp) ⟨_, rfl, (fun h => by cases h), (Rg.cond_t hP).symm, hI, fun _ _ _ _ h => h⟩
    · intro ll bb w' hs hlf hN hO hf hI hA
      clear hi'
      have qg : bb.tmps[69]? = some (cond true (.bool (decide ((0 : Int) < (j : Int)))) undef) := hf.tmp (k := 2) rfl (by rw [ha]; decide) (hA 2 (by kernel_rfl))
      cases hP : (true && ((decide ((0 : Int) < (j : Int))) == true)) with
      | false => exact Rg.op_none (o := ⟨some 71, _, _, _, _, _⟩) rfl (Rg.unwanted_c (g := 2) rfl rfl qg hP) ⟨_, rfl, (fun h => by cases h), Rg.cond_f hP, hI, fun _ _ _ _ h => h⟩
      | true =>
        have hw := Rg.wanted_c (ops := (Rg.opsOf Try.f12 12)) (o := (Rg.opsOf Try.f12 12)[4]'(by rw [sizeSp12]; decide)) (g := 2) rfl rfl qg hP
        have g0 := Rg.pc_r hP
        have q0 := hf.kept (s := 10) (by rw [sizeSp12]; kernel_rfl) k10
        exact Rg.op_value (o := ⟨some 71, Op.move (Operand.tmp 10), _, _, _, _⟩) (x := .slice (some ⟨G, 0, none⟩) m c) rfl hw (by clear hA HS hN hO HK hPX hPN hy hm0 hwr; simp only [execOp]; go_simp) ⟨_, rfl, (fun h => by cases h), (Rg.cond_t hP).symm, hI, fun _ _ _ _ h => h⟩
    · intro ll bb w' hs hlf hN hO hf hI hA
      clear hi'
      have qg : bb.tmps[69]? = some (cond true (.bool (decide ((0 : Int) < (j : Int)))) undef) := hf.tmp (k := 2) rfl (by rw [ha]; decide) (hA 2 (by kernel_rfl))
      cases hP : (true && ((decide ((0 : Int) < (j : Int))) == true)) with
      | false => exact Rg.op_none (o := ⟨some 72, _, _, _, _, _⟩) rfl (Rg.unwanted_c (g := 2) rfl rfl qg hP) ⟨_, rfl, (fun h => by cases h), Rg.cond_f hP, hI, fun _ _ _ _ h => h⟩
      | true =>
        have hw := Rg.wanted_c (ops := (Rg.opsOf Try.f12 12)) (o := (Rg.opsOf Try.f12 12)[5]'(by rw [sizeSp12]; decide)) (g := 2) rfl rfl qg hP
        have g0 := Rg.pc_r hP
        have q0 := hf.kept (s := 13) (by rw [sizeSp12]; kernel_rfl) k13
        exact Rg.op_value (o := ⟨some 72, Op.move (Operand.tmp 13), _, _, _, _⟩) (x := .int .i64 (j : Nat)) rfl hw (by clear hA HS hN hO HK hPX hPN hy hm0 hwr; simp only [execOp]; go_simp) ⟨_, rfl, (fun h => by cases h), (Rg.cond_t hP).symm, hI, fun _ _ _ _ h => h⟩
    · intro ll bb w' hs hlf hN hO hf hI hA
      clear hi'
      have qg : bb.tmps[69]? = some (cond true (.bool (decide ((0 : Int) < (j : Int)))) undef) := hf.tmp (k := 2) rfl (by rw [ha]; decide) (hA 2 (by kernel_rfl))
      cases hP : (true && ((decide ((0 : Int) < (j : Int))) == true)) with
      | false => exact Rg.op_none (o := ⟨some 73, _, _, _, _, _⟩) rfl (Rg.unwanted_c (g := 2) rfl rfl qg hP) ⟨_, rfl, (fun h => by cases h), Rg.cond_f hP, hI, fun _ _ _ _ h => h⟩
      | true =>
        have hw := Rg.wanted_c (ops := (Rg.opsOf Try.f12 12)) (o := (Rg.opsOf Try.f12 12)[6]'(by rw [sizeSp12]; decide)) (g := 2) rfl rfl qg hP
        have g0 := Rg.pc_r hP
        have q72 : bb.tmps[72]? = some (.int .i64 (j : Nat)) := hf.tmp (k := 5) rfl (by rw [ha]; decide) (Eq.trans (hA 5 (by kernel_rfl)) (Rg.cond_t hP))
        have hgp : 0 < j := by have q1 := g0; simp at q1; omega
        have hw9 := hwr hgp
        exact Rg.op_value (o := ⟨some 73, Op.binOp BinOp.sub 3 (Operand.tmp 72) (Operand.const (Value.int .i64 1)) 3, _, _, _, _⟩) (x := .int .i64 ((j - 1 : Nat))) rfl hw (by clear hA HS hN hO HK hPX hPN hy hm0 hwr; simp only [execOp]; go_simp) ⟨_, rfl, (fun h => by cases h), (Rg.cond_t hP).symm, hI, fun _ _ _ _ h => h⟩
    · intro ll bb w' hs hlf hN hO hf hI hA
      clear hi'
      have qg : bb.tmps[69]? = some (cond true (.bool (decide ((0 : Int) < (j : Int)))) undef) := hf.tmp (k := 2) rfl (by rw [ha]; decide) (hA 2 (by kernel_rfl))
      cases hP : (true && ((decide ((0 : Int) < (j : Int))) == true)) with
      | false => exact Rg.op_none (o := ⟨some 74, _, _, _, _, _⟩) rfl (Rg.unwanted_c (g := 2) rfl rfl qg hP) ⟨_, rfl, (fun h => by cases h), Rg.cond_f hP, hI, fun _ _ _ _ h => h⟩
      | true =>
        have hw := Rg.wanted_c (ops := (Rg.opsOf Try.f12 12)) (o := (Rg.opsOf Try.f12 12)[7]'(by rw [sizeSp12]; decide)) (g := 2) rfl rfl qg hP
        have g0 := Rg.pc_r hP
        have q71 : bb.tmps[71]? = some (.slice (some ⟨G, 0, none⟩) m c) := hf.tmp (k := 4) rfl (by rw [ha]; decide) (Eq.trans (hA 4 (by kernel_rfl)) (Rg.cond_t hP))
        have q73 : bb.tmps[73]? = some (.int .i64 ((j - 1 : Nat))) := hf.tmp (k := 6) rfl (by rw [ha]; decide) (Eq.trans (hA 6 (by kernel_rfl)) (Rg.cond_t hP))
        have hgp : 0 < j := by have q1 := g0; simp at q1; omega
        have hi9 : ((((j - 1) : Nat)) : Int) < (m : Int) := by have := hm0 hgp; omega
        exact Rg.op_value (o := ⟨some 74, Op.indexAddr 24 (Operand.tmp 71) (Operand.tmp 73), _, _, _, _⟩) (x := .pointer (some ⟨G, (j - 1) * 6, none⟩)) rfl hw (by clear hA HS hN hO HK hPX hPN hy hm0 hwr; simp only [execOp]; go_simp) ⟨_, rfl, (fun h => by cases h), (Rg.cond_t hP).symm, hI, fun _ _ _ _ h => h⟩
    · intro ll bb w' hs hlf hN hO hf hI hA
      clear hi'
      have qg : bb.tmps[69]? = some (cond true (.bool (decide ((0 : Int) < (j : Int)))) undef) := hf.tmp (k := 2) rfl (by rw [ha]; decide) (hA 2 (by kernel_rfl))
      cases hP : (true && ((decide ((0 : Int) < (j : Int))) == true)) with
      | false => exact Rg.op_none (o := ⟨some 75, _, _, _, _, _⟩) rfl (Rg.unwanted_c (g := 2) rfl rfl qg hP) ⟨_, rfl, (fun h => by cases h), Rg.cond_f hP, hI, fun _ _ _ _ h => h⟩
      | true =>
        have hw := Rg.wanted_c (ops := (Rg.opsOf Try.f12 12)) (o := (Rg.opsOf Try.f12 12)[8]'(by rw [sizeSp12]; decide)) (g := 2) rfl rfl qg hP
        have g0 := Rg.pc_r hP
        have q74 : bb.tmps[74]? = some (.pointer (some ⟨G, (j - 1) * 6, none⟩)) := hf.tmp (k := 7) rfl (by rw [ha]; decide) (Eq.trans (hA 7 (by kernel_rfl)) (Rg.cond_t hP))
        have hgp : 0 < j := by have q1 := g0; simp at q1; omega
        have hx9 := (hy hgp).below hI hGl
        have e0 := hx9.c0
        have e1 := hx9.c1
        have e2 := hx9.c2
        have e3 := hx9.c3
        have e4 := hx9.c4
        have e5 := hx9.c5
        exact Rg.op_value (o := ⟨some 75, Op.load 81 (Operand.tmp 74), _, _, _, _⟩) (x := .agg #[.int .i64 y.1.id, .int .i64 y.1.grp, y.2, .int .i64 y.1.til, .int .i64 y.1.st, .int .i64 y.1.fr]) rfl hw (by clear hA HS hN hO HK hPX hPN hy hm0 hwr; simp only [execOp]; go_simp) ⟨_, rfl, (fun h => by cases h), (Rg.cond_t hP).symm, hI, fun _ _ _ _ h => h⟩
    · intro ll bb w' hs hlf hN hO hf hI hA
      clear hi'
      have qg : bb.tmps[69]? = some (cond true (.bool (decide ((0 : Int) < (j : Int)))) undef) := hf.tmp (k := 2) rfl (by rw [ha]; decide) (hA 2 (by kernel_rfl))
      cases hP : (true && ((decide ((0 : Int) < (j : Int))) == true)) with
      | false => exact Rg.op_none (o := ⟨some 76, _, _, _, _, _⟩) rfl (Rg.unwanted_c (g := 2) rfl rfl qg hP) ⟨_, rfl, (fun h => by cases h), Rg.cond_f hP, hI, fun _ _ _ _ h => h⟩
      | true =>
        have hw := Rg.wanted_c (ops := (Rg.opsOf Try.f12 12)) (o := (Rg.opsOf Try.f12 12)[9]'(by rw [sizeSp12]; decide)) (g := 2) rfl rfl qg hP
        have g0 := Rg.pc_r hP
        have q5 := hf.kept (s := 5) (by rw [sizeSp12]; kernel_rfl) k5
        obtain ⟨d0, d1, d2⟩ := (hPN.below hI).three
        exact Rg.op_value (o := ⟨some 76, Op.load 27 (Operand.tmp 5), _, _, _, _⟩) (x := .agg #[.int .i64 n.p, .int .i64 n.g, tn]) rfl hw (by clear hA HS hN hO HK hPX hPN hy hm0 hwr; simp only [execOp]; go_simp) ⟨_, rfl, (fun h => by cases h), (Rg.cond_t hP).symm, hI, fun _ _ _ _ h => h⟩
    · intro ll bb w' hs hlf hN hO hf hI hA
      clear hi'
      have qg : bb.tmps[69]? = some (cond true (.bool (decide ((0 : Int) < (j : Int)))) undef) := hf.tmp (k := 2) rfl (by rw [ha]; decide) (hA 2 (by kernel_rfl))
      cases hP : (true && ((decide ((0 : Int) < (j : Int))) == true)) with
      | false => exact Rg.op_none (o := ⟨some 77, _, _, _, _, _⟩) rfl (Rg.unwanted_c (g := 2) rfl rfl qg hP) ⟨_, rfl, (fun h => by cases h), Rg.cond_f hP, hI, fun _ _ _ _ h => h⟩
      | true =>
        have hw := Rg.wanted_c (ops := (Rg.opsOf Try.f12 12)) (o := (Rg.opsOf Try.f12 12)[10]'(by rw [sizeSp12]; decide)) (g := 2) rfl rfl qg hP
        have g0 := Rg.pc_r hP
        have q70 : bb.tmps[70]? = some (.agg #[.int .i64 x.id, .int .i64 x.grp, tv, .int .i64 x.til, .int .i64 x.st, .int .i64 x.fr]) := hf.tmp (k := 3) rfl (by rw [ha]; decide) (Eq.trans (hA 3 (by kernel_rfl)) (Rg.cond_t hP))
        have q75 : bb.tmps[75]? = some (.agg #[.int .i64 y.1.id, .int .i64 y.1.grp, y.2, .int .i64 y.1.til, .int .i64 y.1.st, .int .i64 y.1.fr]) := hf.tmp (k := 8) rfl (by rw [ha]; decide) (Eq.trans (hA 8 (by kernel_rfl)) (Rg.cond_t hP))
        have q76 : bb.tmps[76]? = some (.agg #[.int .i64 n.p, .int .i64 n.g, tn]) := hf.tmp (k := 9) rfl (by rw [ha]; decide) (Eq.trans (hA 9 (by kernel_rfl)) (Rg.cond_t hP))
        refine Rg.op_call (o := ⟨some 77, Op.call { callee := Callee.value (Operand.func 54), args := #[(Operand.tmp 70), (Operand.tmp 75), (Operand.tmp 76)], argTypes := _ }, _, _, _, _⟩) rfl hw (by clear hA HS hN hO HK hPX hPN hy hm0 hwr; simp only [execOp, resolve]; go_simp) (HK w') ?_
        rintro e w2 ⟨rfl, hb2⟩
        exact ⟨_, rfl, _, rfl, (fun h => by cases h), (Rg.cond_t hP).symm, onto hI hb2, fun k9 y9 _ _ h => HS hb2 k9 y9 h⟩
    · intro ll bb w' hs hlf hN hO hf hI hA
      clear hi'
      have q69 : bb.tmps[69]? = some _ := hf.tmp (k := 2) rfl (by rw [ha]; decide) (hA 2 (by kernel_rfl))
      cases hC : (decide ((0 : Int) < (j : Int))) with
      | false =>
        have hval : ((.bool ((decide ((0 : Int) < (j : Int))) && r9) : Value)) = .bool false := by rw [hC]; rfl
        exact Rg.op_value (o := ⟨some 78, Op.pick (Operand.tmp 69) (Operand.tmp 77) (Operand.const (Value.bool false)), _, _, _, _⟩) (x := .bool false) rfl rfl (by rw [hC] at q69; clear hA HS hN hO HK hPX hPN hy hm0 hwr hval; simp only [execOp]; go_simp) ⟨_, rfl, (fun h => by cases h), (by show ((.bool false : Value)) = _; first | exact hval.symm | rfl), hI, fun _ _ _ _ h => h⟩
      | true =>
        have hB : (true && ((decide ((0 : Int) < (j : Int))) == true)) = true := by rw [hC]; rfl
        have q77 : bb.tmps[77]? = some (.bool r9) := hf.tmp (k := 10) rfl (by rw [ha]; decide) (Eq.trans (hA 10 (by kernel_rfl)) (Rg.cond_t hB))
        have hval : ((.bool ((decide ((0 : Int) < (j : Int))) && r9) : Value)) = .bool r9 := by rw [hC]; rfl
        exact Rg.op_value (o := ⟨some 78, Op.pick (Operand.tmp 69) (Operand.tmp 77) (Operand.const (Value.bool false)), _, _, _, _⟩) (x := .bool r9) rfl rfl (by rw [hC] at q69; clear hA HS hN hO HK hPX hPN hy hm0 hwr hval; simp only [execOp]; go_simp) ⟨_, rfl, (fun h => by cases h), (by show ((.bool r9 : Value)) = _; first | exact hval.symm | rfl), hI, fun _ _ _ _ h => h⟩
theorem dSp12_0 : Rg.dstAt (Rg.opsOf Try.f12 12) 0 = some 67 := by kernel_rfl
theorem dSp12_1 : Rg.dstAt (Rg.opsOf Try.f12 12) 1 = some 68 := by kernel_rfl
theorem dSp12_2 : Rg.dstAt (Rg.opsOf Try.f12 12) 2 = some 69 := by kernel_rfl
theorem dSp12_3 : Rg.dstAt (Rg.opsOf Try.f12 12) 3 = some 70 := by kernel_rfl
theorem dSp12_4 : Rg.dstAt (Rg.opsOf Try.f12 12) 4 = some 71 := by kernel_rfl
theorem dSp12_5 : Rg.dstAt (Rg.opsOf Try.f12 12) 5 = some 72 := by kernel_rfl
theorem dSp12_6 : Rg.dstAt (Rg.opsOf Try.f12 12) 6 = some 73 := by kernel_rfl
theorem dSp12_7 : Rg.dstAt (Rg.opsOf Try.f12 12) 7 = some 74 := by kernel_rfl
theorem dSp12_8 : Rg.dstAt (Rg.opsOf Try.f12 12) 8 = some 75 := by kernel_rfl
theorem dSp12_9 : Rg.dstAt (Rg.opsOf Try.f12 12) 9 = some 76 := by kernel_rfl
theorem dSp12_10 : Rg.dstAt (Rg.opsOf Try.f12 12) 10 = some 77 := by kernel_rfl
theorem dSp12_11 : Rg.dstAt (Rg.opsOf Try.f12 12) 11 = some 78 := by kernel_rfl
theorem laySp12 {a b : Act} (hf : Rg.Fr (Rg.opsOf Try.f12 12) a b) : b = ((((((((((((a.put (some 67) (Rg.out (Rg.opsOf Try.f12 12) b 0)).put (some 68) (Rg.out (Rg.opsOf Try.f12 12) b 1)).put (some 69) (Rg.out (Rg.opsOf Try.f12 12) b 2)).put (some 70) (Rg.out (Rg.opsOf Try.f12 12) b 3)).put (some 71) (Rg.out (Rg.opsOf Try.f12 12) b 4)).put (some 72) (Rg.out (Rg.opsOf Try.f12 12) b 5)).put (some 73) (Rg.out (Rg.opsOf Try.f12 12) b 6)).put (some 74) (Rg.out (Rg.opsOf Try.f12 12) b 7)).put (some 75) (Rg.out (Rg.opsOf Try.f12 12) b 8)).put (some 76) (Rg.out (Rg.opsOf Try.f12 12) b 9)).put (some 77) (Rg.out (Rg.opsOf Try.f12 12) b 10)).put (some 78) (Rg.out (Rg.opsOf Try.f12 12) b 11)) := by
  have h := hf.chain
  rw [sizeSp12, show List.range 12 = [0, 1, 2, 3, 4, 5, 6, 7, 8, 9, 10, 11] from by decide] at h
  simp only [List.foldl_cons, List.foldl_nil, dSp12_0, dSp12_1, dSp12_2, dSp12_3, dSp12_4, dSp12_5, dSp12_6, dSp12_7, dSp12_8, dSp12_9, dSp12_10, dSp12_11] at h
  exact h
end Go.Proofs.Ytgcpiinmcbdkmaa
