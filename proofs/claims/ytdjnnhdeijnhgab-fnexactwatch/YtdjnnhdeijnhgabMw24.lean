/-
  Watch's closure: with a tick.
-/
import Derived.Test.YtdjnnhdeijnhgabMw23
import Derived.Test.YtdjnnhdeijnhgabMw2
import Derived.Deep.RegionLaw
import Derived.Deep.RegionLawGrows
import Derived.Test.YtdjnnhdeijnhgabMw15
import Derived.Test.YtdjnnhdeijnhgabMw18
namespace Go.Proofs.Ytdjnnhdeijnhgab
open Go.RowKit Va Rn
set_option linter.all false

theorem ints_low (z : Int) : ∀ u ∈ [Value.int .i64 z], Low 0 u := by
  intro u hu
  simp only [List.mem_singleton] at hu
  subst hu
  exact low_int _ _
theorem zero_low : ∀ u ∈ (Value.int .i64 0).cells, Low 0 u := by
  intro u hu
  simp only [Value.cells, List.mem_toArray, List.mem_singleton] at hu
  subst hu
  exact low_int _ _
/-- A box's one cell. -/
theorem at_one {w : World} {g : Nat} {c : Value} {t : TypeId} (h : w.heap[g]? = some (.cells #[c] t (0, 0))) : w.cell? ⟨g, 0, none⟩ = some c ∧ w.frozen? ⟨g, 0, none⟩ = false := by
  unfold World.cell? World.frozen?
  simp [h]
theorem one_set {W : World} {g : Nat} {x a : Value} {t : TypeId} (h : W.heap[g]? = some (.cells #[x] t (0, 0))) : (W.setCell ⟨g, 0, none⟩ a).heap[g]? = some (.cells #[a] t (0, 0)) := by
  rw [setCell_eq_setRow W g 0 _ t (0, 0) a h]; exact setRow_heap W g _ _ _ _ h

/-- Behind the store of what has been appended. -/
theorem jw_store {b0 Kn Ka Kt m : Nat} {W W2 w5 : World} {sv v5 : Value} {XS YS : List Value} {cn ca : Array Value} (q1 : W.heap[Kn]? = some (.cells cn 46 (0, 0))) (q2 : W.heap[Ka]? = some (.cells ca 28 (0, 0))) (q4 : W.heap[Kt]? = some (.cells #[sv] 26 (0, 0))) (hz : b0 ≤ W.heap.size) (hrow : RowP W b0 2 1 sv m XS)
    (hw : ∀ b, b < W.heap.size → W2.heap[b]? = W.heap[b]?) (hs : W.heap.size ≤ W2.heap.size) (hg5 : W2.grownBy w5 sv.ownBlock) (h5 : RowP w5 b0 2 1 v5 (m + 1) YS) :
    (w5.cell? ⟨Kt, 0, none⟩ = some sv ∧ w5.frozen? ⟨Kt, 0, none⟩ = false) ∧ ((w5.setCell ⟨Kt, 0, none⟩ v5).heap[Kn]? = some (.cells cn 46 (0, 0)) ∧ (w5.setCell ⟨Kt, 0, none⟩ v5).heap[Ka]? = some (.cells ca 28 (0, 0)) ∧ b0 ≤ (w5.setCell ⟨Kt, 0, none⟩ v5).heap.size ∧ ∃ sv, (w5.setCell ⟨Kt, 0, none⟩ v5).heap[Kt]? = some (.cells #[sv] 26 (0, 0)) ∧ RowP (w5.setCell ⟨Kt, 0, none⟩ v5) b0 2 1 sv (m + 1) YS) := by
  have l1 : Kn < W.heap.size := (Array.getElem?_eq_some_iff.1 q1).1
  have l2 : Ka < W.heap.size := (Array.getElem?_eq_some_iff.1 q2).1
  have l4 : Kt < W.heap.size := (Array.getElem?_eq_some_iff.1 q4).1
  have keep : ∀ (K : Nat) (c : Array Value) (t : TypeId), W.heap[K]? = some (.cells c t (0, 0)) → 2 ≠ t → w5.heap[K]? = some (.cells c t (0, 0)) := fun K c t hK ht => by
    have hlt : K < W.heap.size := (Array.getElem?_eq_some_iff.1 hK).1
    rw [hg5.block K (by omega) (fun e => rowP_apart hrow hK ht K e.symm rfl), hw K hlt]
    exact hK
  have k4 := keep Kt _ _ q4 (by decide)
  have k1 := keep Kn _ _ q1 (by decide)
  have k2 := keep Ka _ _ q2 (by decide)
  refine ⟨at_one k4, ?_, ?_, ?_, v5, one_set k4, ?_⟩
  · exact (setCell_ne _ (apart_ty k1 k4 (by decide))).trans k1
  · exact (setCell_ne _ (apart_ty k2 k4 (by decide))).trans k2
  · have := hg5.size
    unfold World.setCell
    simp
    omega
  · exact h5.same fun g hg => setCell_ne _ (rowP_apart h5 k4 (by decide) g hg)

set_option maxRecDepth 20000 in
set_option maxHeartbeats 8000000 in
theorem watch1_any {b0 Kn Ka Kt : Nat} {a : Al} {l : List Tk} {k : Nat} {x : Tk} (ha : alOk a = true) (hl : l.length ≤ 2000) (hx : l[k]? = some x) (hxB : tkB x = true) (w : World) (h : JWt b0 Kn Ka Kt a l k w) :
    Calls Try.prog 27 #[aTk x, .pointer (some ⟨Kn, 0, none⟩), .pointer (some ⟨Ka, 0, none⟩), .pointer (some ⟨Kt, 0, none⟩)] w fun e w' => e = .returned (.tuple #[]) ∧ JWt b0 Kn Ka Kt a l (k + 1) w' := by
  obtain ⟨h1, h2, h3, sv, h4, h5⟩ := h
  have hkl := (List.getElem?_eq_some_iff.1 hx).1
  obtain ⟨hs, hc0, hc1⟩ := stK_bd a l k
  obtain ⟨hs2, -, -⟩ := stK_bd a l (k + 1)
  have hB := fun W => behind_any a (stK a l k) x ha hxB hs ⟨hc0, by omega⟩ W
  rw [← stK_next hx] at hB
  have hT := fun W => toldN_any (stK a l (k + 1)) hs2 W
  have HTS := hidden (toldK_succ a l k)
  have HTL := hidden (toldK_len a l k)
  obtain ⟨i0, hi0, hy0, hy1, hy2⟩ := info_partsW infoW64
  have hlen : (toldK a l k).length ≤ 2000 := by rw [toldK_len]; omega
  have HJ : Hid (∀ w' : World, w'.heap[Kn]? = some (.cells #[.int .i64 (stK a l (k + 1)).s, .int .i64 (stK a l (k + 1)).c, .bool (stK a l (k + 1)).b, .bool (stK a l (k + 1)).g] 46 (0, 0)) → w'.heap[Ka]? = some (.cells #[.int .i64 a.hi, .int .i64 a.lo, .int .i64 a.sl, .int .i64 a.dl] 28 (0, 0)) → b0 ≤ w'.heap.size → (∃ sv, w'.heap[Kt]? = some (.cells #[sv] 26 (0, 0)) ∧ RowP w' b0 2 1 sv ((toldK a l k).length + 1) (ints (toldK a l k) ++ [.int .i64 (toldN (stK a l (k + 1)))])) → JWt b0 Kn Ka Kt a l (k + 1) w') := by
    intro w' q1 q2 q3 ⟨sv, q4, q5⟩
    refine ⟨q1, q2, q3, sv, q4, ?_⟩
    have e : ints (toldK a l (k + 1)) = ints (toldK a l k) ++ [.int .i64 (toldN (stK a l (k + 1)))] := by
      unfold ints
      rw [toldK_succ, List.map_append]
      rfl
    rw [e, toldK_succ, List.length_append]
    exact q5
  obtain ⟨g0, cap0, rfl⟩ : ∃ ad c, sv = .slice ad (toldK a l k).length c := rowP_slice h5
  generalize toldN (stK a l (k + 1)) = tv at *
  generalize hXS : ints (toldK a l k) = XS at *
  generalize (toldK a l k).length = m at *
  clear HTS HTL hs hs2 hc0 hc1
  generalize stK a l k = n at *
  generalize stK a l (k + 1) = n2 at *
  obtain ⟨hi, lo, sl, dl⟩ := a
  obtain ⟨s, c, b, g⟩ := n
  obtain ⟨s2, c2, b2, g2⟩ := n2
  obtain ⟨xv, xk, xh⟩ := x
  unfold aNw aA aTk at *
  dsimp only at *
  have hlt1 : Kn < w.heap.size := (Array.getElem?_eq_some_iff.1 h1).1
  have hlt2 : Ka < w.heap.size := (Array.getElem?_eq_some_iff.1 h2).1
  have hlt4 : Kt < w.heap.size := (Array.getElem?_eq_some_iff.1 h4).1
  have HN : Hid (Kn ≠ Ka ∧ Kt ≠ Kn ∧ Ka ≠ Kt) := ⟨apart_ty h1 h2 (by decide), apart_ty h4 h1 (by decide), apart_ty h2 h4 (by decide)⟩
  obtain ⟨⟨m0, m1, m2, m3⟩, -⟩ := at_four h1
  obtain ⟨⟨k0, k1, k2, k3⟩, -⟩ := at_four h2
  have H1 := hidden h1
  have H2 := hidden h2
  have H4 := hidden h4
  have H5 := hidden h5
  clear h1 h2 h4 h5 hxB hx ha hXS
  go_enter Try.func27, Try.ntmps27
  go_upto_region 2 with (go_at_call 28; refine (hB _).mono ?_; rintro e w2 ⟨rfl, hb2⟩; have HB2 := hidden hb2; have q1 := ((hb2.block Kn (by simp; omega)).trans (heap_alloc_old _ _ hlt1)).trans H1.out; obtain ⟨⟨d0, d1, d2, d3⟩, n0, n1, n2, n3⟩ := at_four q1; have HQ1 := hidden q1; clear hb2 q1)
  obtain ⟨W, hW⟩ : ∃ W, W = (((w2.setCell ⟨Kn, 0, none⟩ (.int .i64 s2)).setCell ⟨Kn, 1, none⟩ (.int .i64 c2)).setCell ⟨Kn, 2, none⟩ (.bool b2)).setCell ⟨Kn, 3, none⟩ (.bool g2) := ⟨_, rfl⟩
  rw [← hW]
  have ne4 : ∀ K, K ≠ Kn → W.heap[K]? = w2.heap[K]? := fun K hK => by
    rw [hW]
    exact (setCell_ne _ hK).trans ((setCell_ne _ hK).trans ((setCell_ne _ hK).trans (setCell_ne _ hK)))
  have hold : ∀ K, K < w.heap.size → w2.heap[K]? = w.heap[K]? := fun K hK => (HB2.out.block K (by simp; omega)).trans (heap_alloc_old _ _ hK)
  have q1 : W.heap[Kn]? = some (.cells #[.int .i64 s2, .int .i64 c2, .bool b2, .bool g2] 46 (0, 0)) := by rw [hW]; exact four_set HQ1.out
  have q2 := (ne4 Ka HN.out.1.symm).trans ((hold Ka hlt2).trans H2.out)
  have q4 := (ne4 Kt HN.out.2.1).trans ((hold Kt hlt4).trans H4.out)
  have hrow : RowP W b0 2 1 (.slice g0 m cap0) m XS := H5.out.same fun g hg => (ne4 g (rowP_apart H5.out H1.out (by decide) g hg)).trans (hold g (H5.out.own.lt g hg).2)
  have hsz : b0 ≤ W.heap.size := by
    have := HB2.out.size
    rw [hW]
    unfold World.setCell
    simp at this ⊢
    omega
  clear hW ne4 hold HB2 HQ1 H1 H2 H4 H5 m0 m1 m2 m3 k0 k1 k2 k3 d0 d1 d2 d3 n0 n1 n2 n3 hB HN
  have ltn : Kn < W.heap.size := (Array.getElem?_eq_some_iff.1 q1).1
  have lt4 : Kt < W.heap.size := (Array.getElem?_eq_some_iff.1 q4).1
  obtain ⟨⟨m0, m1, m2, m3⟩, -⟩ := at_four q1
  obtain ⟨t0, -⟩ := at_one q4
  have Q1 := hidden q1
  have Q2 := hidden q2
  have Q4 := hidden q4
  have QR := hidden hrow
  clear q1 q2 q4 hrow
  go_region_law (first | (go_simp; go_at_call 29; refine (hT _).mono ?_; rintro e w4 ⟨rfl, hb4⟩; have t4 := (at_one ((hb4.block Kt lt4).trans Q4.out)).1; have lt5 : Kt < w4.heap.size := Nat.lt_of_lt_of_le lt4 hb4.size; have HB4 := hidden hb4; clear hb4) | (refine step_append_plain rfl (.tmp 9) (.tmp 12) 26 rfl b0 2 i0 (.int .i64 0) 1 8 Try.underlying26 hi0 hy0 hy1 hy2 rfl (by decide) zero_low (.slice g0 m cap0) m XS ?_ ((QR.out.same (fun g hg => HB4.out.block g (QR.out.own.lt g hg).2)).alloc _) ⟨w4.heap.size, 0, none⟩ 1 1 [.int .i64 tv] (by decide) ?_ rfl ?_ ?_ (ints_low _) ?_ ?_ ?_ ?_; (first | rfl | simp [Act.eval] | simp [Act.eval, Act.put]); (first | rfl | simp [Act.eval] | simp [Act.eval, Act.put]); (exact cell_oneW _ _ _); (simp [Value.oneCell']); (unfold maxLen; omega); (omega); (have : W.heap.size ≤ w4.heap.size := HB4.out.size; simp; omega); intro g5 cap5 w5 ho5 hg5; obtain ⟨⟨c5, f5⟩, hJ5⟩ := jw_store Q1.out Q2.out Q4.out hsz QR.out (fun b hb => (heap_alloc_old _ _ (Nat.lt_of_lt_of_le hb HB4.out.size)).trans (HB4.out.block b hb)) (by have : W.heap.size ≤ w4.heap.size := HB4.out.size; simp; omega) hg5 ho5; have HJ5 := hidden hJ5; clear hJ5 ho5 hg5))
  all_goals
    go_wp2_with fail
    go_end0
    exact ⟨rfl, HJ.out _ HJ5.out.1 HJ5.out.2.1 HJ5.out.2.2.1 HJ5.out.2.2.2⟩
end Go.Proofs.Ytdjnnhdeijnhgab

/-
  The code of Watch and of its law, in pieces.
-/
namespace Go.Proofs.Ytdjnnhdeijnhgab.Rn
open Go Go.Conc
set_option linter.all false
set_option maxRecDepth 100000

noncomputable def bodyW : Code := (Try.f10.body).getD .skip
noncomputable def rW0 : Array Oper := regOps (cA bodyW)
noncomputable def rW1 : Array Oper := regOps (cA (cB bodyW))
noncomputable def rW2 : Array Oper := regOps (cA (cA (cB (cB bodyW))))
noncomputable def rW3 : Array Oper := regOps (cA (cA (cB (cA (cB (cB bodyW))))))
noncomputable def rW4 : Array Oper := regOps (cA (cB (cB (cB bodyW))))
noncomputable def rW5 : Array Oper := regOps (cA (cB (cB (cB (cB bodyW)))))
noncomputable def rW6 : Array Oper := regOps (cA (cB (cB (cB (cB (cB bodyW))))))
theorem bodyW_some : Try.f10.body = some bodyW := by rfl
theorem bodyW_eq : bodyW = ((Code.region 0 rW0 false).seq ((Code.region 1 rW1 false).seq (((Code.region 2 rW2 false).seq (Code.cond (.tmp 15) ((Code.region 3 rW3 false).seq Code.ret) Code.skip)).seq ((Code.region 4 rW4 false).seq ((Code.region 5 rW5 false).seq ((Code.region 6 rW6 false).seq Code.ret)))))) := by rfl
theorem szW0 : rW0.size = 2 := by rfl
/- Op.box 28 t0 -/
theorem oW0_1 : ∃ o, rW0[1]? = some o ∧ o.dst = some 4 ∧ o.guard = none ∧ o.op = .assign (.const (.slice none 0 0)) := ⟨_, rfl, rfl, rfl, rfl⟩
theorem szW1 : rW1.size = 3 := by rfl
theorem oW1_0 : ∃ o, rW1[0]? = some o ∧ o.dst = some 7 ∧ o.guard = none ∧ o.op = .buildSlice 26 0 #[] := ⟨_, rfl, rfl, rfl, rfl⟩
theorem oW1_1 : ∃ o, rW1[1]? = some o ∧ o.dst = some 5 ∧ o.guard = none ∧ o.op = .alloc 26 := ⟨_, rfl, rfl, rfl, rfl⟩
theorem oW1_2 : ∃ o, rW1[2]? = some o ∧ o.dst = none ∧ o.guard = none ∧ o.op = .store 26 (.tmp 5) (.tmp 7) := ⟨_, rfl, rfl, rfl, rfl⟩
theorem szW2 : rW2.size = 8 := by rfl
theorem oW2_0 : ∃ o, rW2[0]? = some o ∧ o.dst = some 8 ∧ o.guard = none ∧ o.op = .load 28 (.tmp 2) := ⟨_, rfl, rfl, rfl, rfl⟩
theorem oW2_1 : ∃ o, rW2[1]? = some o ∧ o.dst = some 9 ∧ o.guard = none ∧ o.op = .call { callee := .value (.func 24), args := #[.tmp 8], argTypes := #[28] } := ⟨_, rfl, rfl, rfl, rfl⟩
theorem oW2_2 : ∃ o, rW2[2]? = some o ∧ o.dst = some 10 ∧ o.guard = none ∧ o.op = .unOp .not 4 (.tmp 9) := ⟨_, rfl, rfl, rfl, rfl⟩
theorem oW2_3 : ∃ o, rW2[3]? = some o ∧ o.dst = some 11 ∧ o.guard = none ∧ o.op = .move (.tmp 10) := ⟨_, rfl, rfl, rfl, rfl⟩
theorem oW2_4 : ∃ o, rW2[4]? = some o ∧ o.dst = some 12 ∧ o.guard = some (3, false) ∧ o.op = .move (.tmp 1) := ⟨_, rfl, rfl, rfl, rfl⟩
theorem oW2_5 : ∃ o, rW2[5]? = some o ∧ o.dst = some 13 ∧ o.guard = some (3, false) ∧ o.op = .call { callee := .value (.func 25), args := #[.tmp 12], argTypes := #[30] } := ⟨_, rfl, rfl, rfl, rfl⟩
theorem oW2_6 : ∃ o, rW2[6]? = some o ∧ o.dst = some 14 ∧ o.guard = some (3, false) ∧ o.op = .unOp .not 4 (.tmp 13) := ⟨_, rfl, rfl, rfl, rfl⟩
theorem oW2_7 : ∃ o, rW2[7]? = some o ∧ o.dst = some 15 ∧ o.guard = none ∧ o.op = .pick (.tmp 11) (.const (.bool true)) (.tmp 14) := ⟨_, rfl, rfl, rfl, rfl⟩
theorem szW3 : rW3.size = 2 := by rfl
theorem oW3_0 : ∃ o, rW3[0]? = some o ∧ o.dst = some 16 ∧ o.guard = none ∧ o.op = .load 26 (.tmp 5) := ⟨_, rfl, rfl, rfl, rfl⟩
theorem oW3_1 : ∃ o, rW3[1]? = some o ∧ o.dst = some 4 ∧ o.guard = none ∧ o.op = .assign (.tmp 16) := ⟨_, rfl, rfl, rfl, rfl⟩
theorem szW4 : rW4.size = 3 := by rfl
/- Op.build 46 #[] -/
theorem oW4_1 : ∃ o, rW4[1]? = some o ∧ o.dst = some 6 ∧ o.guard = none ∧ o.op = .alloc 46 := ⟨_, rfl, rfl, rfl, rfl⟩
theorem oW4_2 : ∃ o, rW4[2]? = some o ∧ o.dst = none ∧ o.guard = none ∧ o.op = .store 46 (.tmp 6) (.tmp 17) := ⟨_, rfl, rfl, rfl, rfl⟩
theorem szW5 : rW5.size = 3 := by rfl
theorem oW5_0 : ∃ o, rW5[0]? = some o ∧ o.dst = some 18 ∧ o.guard = none ∧ o.op = .move (.tmp 1) := ⟨_, rfl, rfl, rfl, rfl⟩
theorem oW5_1 : ∃ o, rW5[1]? = some o ∧ o.dst = some 19 ∧ o.guard = none ∧ o.op = .makeFunc (.func 27) #[] #[.tmp 6, .tmp 2, .tmp 5] := ⟨_, rfl, rfl, rfl, rfl⟩
theorem oW5_2 : ∃ o, rW5[2]? = some o ∧ o.dst = some 20 ∧ o.guard = none ∧ o.op = .call { callee := .value (.func 26), args := #[.tmp 18, .tmp 19], argTypes := #[30, 50] } := ⟨_, rfl, rfl, rfl, rfl⟩
theorem szW6 : rW6.size = 2 := by rfl
theorem oW6_0 : ∃ o, rW6[0]? = some o ∧ o.dst = some 21 ∧ o.guard = none ∧ o.op = .load 26 (.tmp 5) := ⟨_, rfl, rfl, rfl, rfl⟩
theorem oW6_1 : ∃ o, rW6[1]? = some o ∧ o.dst = some 4 ∧ o.guard = none ∧ o.op = .assign (.tmp 21) := ⟨_, rfl, rfl, rfl, rfl⟩

noncomputable def bodyLW : Code := (Try.f3.body).getD .skip
noncomputable def rLW0 : Array Oper := regOps (cA bodyLW)
noncomputable def rLW1 : Array Oper := regOps (cA (cB bodyLW))
noncomputable def rLW2 : Array Oper := regOps (cA (cB (cB bodyLW)))
noncomputable def rLW3 : Array Oper := regOps (cA (cA (cB (cB (cB bodyLW)))))
noncomputable def rLW4 : Array Oper := regOps (cA (cA (cB (cA (cB (cB (cB bodyLW)))))))
noncomputable def rLW5 : Array Oper := regOps (cA (cB (cB (cB (cB bodyLW)))))
noncomputable def rLW6 : Array Oper := regOps (cA (cB (cB (cB (cB (cB bodyLW))))))
noncomputable def rLW7 : Array Oper := regOps (cA (cB (cB (cB (cB (cB (cB bodyLW)))))))
noncomputable def rLW8 : Array Oper := regOps (cA (cA (cB (cB (cB (cB (cB (cB (cB bodyLW)))))))))
noncomputable def rLW9 : Array Oper := regOps (cA (cA (cB (cA (cB (cB (cB (cB (cB (cB (cB bodyLW)))))))))))
noncomputable def rLW10 : Array Oper := regOps (cA (cA (cB (cB (cB (cB (cB (cB (cB (cB bodyLW))))))))))
noncomputable def rLW11 : Array Oper := regOps (cA (cA (cB (cA (cB (cB (cB (cB (cB (cB (cB (cB bodyLW))))))))))))
noncomputable def rLW12 : Array Oper := regOps (cA (cB (cB (cB (cB (cB (cB (cB (cB (cB bodyLW))))))))))
noncomputable def rLW13 : Array Oper := regOps (cA (cB (cB (cB (cB (cB (cB (cB (cB (cB (cB bodyLW)))))))))))
noncomputable def rLW14 : Array Oper := regOps (cA (cA (cB (cB (cB (cB (cB (cB (cB (cB (cB (cB (cB bodyLW)))))))))))))
noncomputable def rLW15 : Array Oper := regOps (cA (cA (cB (cA (cB (cB (cB (cB (cB (cB (cB (cB (cB (cB (cB bodyLW)))))))))))))))
noncomputable def rLW16 : Array Oper := regOps (cA (cB (cB (cB (cB (cB (cB (cB (cB (cB (cB (cB (cB bodyLW)))))))))))))
noncomputable def rLW17 : Array Oper := regOps (cA (cB (cB (cB (cB (cB (cB (cB (cB (cB (cB (cB (cB (cB bodyLW))))))))))))))
noncomputable def rLW18 : Array Oper := regOps (cA (cB (cB (cB (cB (cB (cB (cB (cB (cB (cB (cB (cB (cB (cB bodyLW)))))))))))))))
noncomputable def rLW19 : Array Oper := regOps (cA (cB (cB (cB (cB (cB (cB (cB (cB (cB (cB (cB (cB (cB (cB (cB bodyLW))))))))))))))))
noncomputable def rLW20 : Array Oper := regOps (cA (cA (cB (cB (cB (cB (cB (cB (cB (cB (cB (cB (cB (cB (cB (cB (cB (cB bodyLW))))))))))))))))))
noncomputable def rLW21 : Array Oper := regOps (cA (cA (cB (cA (cB (cB (cB (cB (cB (cB (cB (cB (cB (cB (cB (cB (cB (cB (cB (cB bodyLW))))))))))))))))))))
noncomputable def rLW22 : Array Oper := regOps (cA (cA (cB (cB (cB (cB (cB (cB (cB (cB (cB (cB (cB (cB (cB (cB (cB (cB (cB bodyLW)))))))))))))))))))
noncomputable def rLW23 : Array Oper := regOps (cA (cA (cB (cA (cB (cB (cB (cB (cB (cB (cB (cB (cB (cB (cB (cB (cB (cB (cB (cB (cB bodyLW)))))))))))))))))))))
noncomputable def rLW24 : Array Oper := regOps (cA (cB (cB (cB (cB (cB (cB (cB (cB (cB (cB (cB (cB (cB (cB (cB (cB (cB (cB bodyLW)))))))))))))))))))
noncomputable def rLW25 : Array Oper := regOps (cA (cA (cB (cB (cB (cB (cB (cB (cB (cB (cB (cB (cB (cB (cB (cB (cB (cB (cB (cB (cB bodyLW)))))))))))))))))))))
noncomputable def rLW26 : Array Oper := regOps (cA (cA (cB (cA (cB (cB (cB (cB (cB (cB (cB (cB (cB (cB (cB (cB (cB (cB (cB (cB (cB (cB (cB bodyLW)))))))))))))))))))))))
noncomputable def rLW27 : Array Oper := regOps (cA (cB (cB (cB (cB (cB (cB (cB (cB (cB (cB (cB (cB (cB (cB (cB (cB (cB (cB (cB (cB bodyLW)))))))))))))))))))))
noncomputable def rLW28 : Array Oper := regOps (cA (cB (cB (cB (cB (cB (cB (cB (cB (cB (cB (cB (cB (cB (cB (cB (cB (cB (cB (cB (cB (cB bodyLW))))))))))))))))))))))
noncomputable def rLW29 : Array Oper := regOps (cA (cA (cB (cB (cB (cB (cB (cB (cB (cB (cB (cB (cB (cB (cB (cB (cB (cB (cB (cB (cB (cB (cB (cB bodyLW))))))))))))))))))))))))
noncomputable def rLW30 : Array Oper := regOps (cA (cA (cB (cA (cB (cB (cB (cB (cB (cB (cB (cB (cB (cB (cB (cB (cB (cB (cB (cB (cB (cB (cB (cB (cB (cB bodyLW))))))))))))))))))))))))))
noncomputable def rLW31 : Array Oper := regOps (cA (cA (cB (cB (cB (cB (cB (cB (cB (cB (cB (cB (cB (cB (cB (cB (cB (cB (cB (cB (cB (cB (cB (cB (cB bodyLW)))))))))))))))))))))))))
noncomputable def rLW32 : Array Oper := regOps (cA (cA (cB (cA (cB (cB (cB (cB (cB (cB (cB (cB (cB (cB (cB (cB (cB (cB (cB (cB (cB (cB (cB (cB (cB (cB (cB bodyLW)))))))))))))))))))))))))))
noncomputable def rLW33 : Array Oper := regOps (cA (cB (cB (cB (cB (cB (cB (cB (cB (cB (cB (cB (cB (cB (cB (cB (cB (cB (cB (cB (cB (cB (cB (cB (cB bodyLW)))))))))))))))))))))))))
theorem bodyLW_some : Try.f3.body = some bodyLW := by rfl
theorem bodyLW_eq : bodyLW = ((Code.region 0 rLW0 false).seq ((Code.region 1 rLW1 false).seq ((Code.region 2 rLW2 false).seq (((Code.region 3 rLW3 false).seq (Code.cond (.tmp 17) ((Code.region 4 rLW4 false).seq Code.ret) Code.skip)).seq ((Code.region 5 rLW5 false).seq ((Code.region 6 rLW6 false).seq ((Code.region 7 rLW7 false).seq (((Code.region 8 rLW8 false).seq (Code.cond (.tmp 32) ((Code.region 9 rLW9 false).seq Code.ret) Code.skip)).seq (((Code.region 10 rLW10 false).seq (Code.cond (.tmp 37) ((Code.region 11 rLW11 false).seq Code.ret) Code.skip)).seq ((Code.region 12 rLW12 false).seq ((Code.region 13 rLW13 false).seq (((Code.region 14 rLW14 false).seq (Code.cond (.tmp 48) ((Code.region 15 rLW15 false).seq Code.ret) Code.skip)).seq ((Code.region 16 rLW16 false).seq ((Code.region 17 rLW17 false).seq ((Code.region 18 rLW18 false).seq ((Code.region 19 rLW19 false).seq (((Code.region 20 rLW20 false).seq (Code.cond (.tmp 56) ((Code.region 21 rLW21 false).seq Code.ret) Code.skip)).seq (((Code.region 22 rLW22 false).seq (Code.cond (.tmp 59) ((Code.region 23 rLW23 false).seq Code.ret) Code.skip)).seq ((Code.region 24 rLW24 false).seq (((Code.region 25 rLW25 false).seq (Code.cond (.tmp 68) ((Code.region 26 rLW26 false).seq Code.ret) Code.skip)).seq ((Code.region 27 rLW27 false).seq ((Code.region 28 rLW28 false).seq (((Code.region 29 rLW29 false).seq (Code.cond (.tmp 73) ((Code.region 30 rLW30 false).seq Code.ret) Code.skip)).seq (((Code.region 31 rLW31 false).seq (Code.cond (.tmp 76) ((Code.region 32 rLW32 false).seq Code.ret) Code.skip)).seq ((Code.region 33 rLW33 false).seq Code.ret))))))))))))))))))))))))) := by rfl
theorem szLW0 : rLW0.size = 2 := by rfl
/- Op.box 23 t0 -/
theorem oLW0_1 : ∃ o, rLW0[1]? = some o ∧ o.dst = some 4 ∧ o.guard = none ∧ o.op = .assign (.const (.bool false)) := ⟨_, rfl, rfl, rfl, rfl⟩
theorem szLW1 : rLW1.size = 1 := by rfl
theorem oLW1_0 : ∃ o, rLW1[0]? = some o ∧ o.dst = some 5 ∧ o.guard = none ∧ o.op = .assign (.const (.int .i64 1048576)) := ⟨_, rfl, rfl, rfl, rfl⟩
theorem szLW2 : rLW2.size = 4 := by rfl
theorem oLW2_0 : ∃ o, rLW2[0]? = some o ∧ o.dst = some 13 ∧ o.guard = none ∧ o.op = .move (.tmp 1) := ⟨_, rfl, rfl, rfl, rfl⟩
theorem oLW2_1 : ∃ o, rLW2[1]? = some o ∧ o.dst = some 14 ∧ o.guard = none ∧ o.op = .move (.tmp 5) := ⟨_, rfl, rfl, rfl, rfl⟩
theorem oLW2_2 : ∃ o, rLW2[2]? = some o ∧ o.dst = some 15 ∧ o.guard = none ∧ o.op = .call { callee := .value (.func 6), args := #[.tmp 13, .tmp 14], argTypes := #[24, 3] } := ⟨_, rfl, rfl, rfl, rfl⟩
theorem oLW2_3 : ∃ o, rLW2[3]? = some o ∧ o.dst = some 5 ∧ o.guard = none ∧ o.op = .assign (.tmp 15) := ⟨_, rfl, rfl, rfl, rfl⟩
theorem szLW3 : rLW3.size = 2 := by rfl
theorem oLW3_0 : ∃ o, rLW3[0]? = some o ∧ o.dst = some 16 ∧ o.guard = none ∧ o.op = .move (.tmp 5) := ⟨_, rfl, rfl, rfl, rfl⟩
theorem oLW3_1 : ∃ o, rLW3[1]? = some o ∧ o.dst = some 17 ∧ o.guard = none ∧ o.op = .binOp .lss 3 (.tmp 16) (.const (.int .i64 0)) 3 := ⟨_, rfl, rfl, rfl, rfl⟩
theorem szLW4 : rLW4.size = 1 := by rfl
theorem oLW4_0 : ∃ o, rLW4[0]? = some o ∧ o.dst = some 4 ∧ o.guard = none ∧ o.op = .assign (.const (.bool true)) := ⟨_, rfl, rfl, rfl, rfl⟩
theorem szLW5 : rLW5.size = 6 := by rfl
theorem oLW5_0 : ∃ o, rLW5[0]? = some o ∧ o.dst = some 18 ∧ o.guard = none ∧ o.op = .load 23 (.tmp 2) := ⟨_, rfl, rfl, rfl, rfl⟩
theorem oLW5_1 : ∃ o, rLW5[1]? = some o ∧ o.dst = some 19 ∧ o.guard = none ∧ o.op = .call { callee := .value (.func 8), args := #[.tmp 18], argTypes := #[23] } := ⟨_, rfl, rfl, rfl, rfl⟩
theorem oLW5_2 : ∃ o, rLW5[2]? = some o ∧ o.dst = some 20 ∧ o.guard = none ∧ o.op = .move (.tmp 1) := ⟨_, rfl, rfl, rfl, rfl⟩
theorem oLW5_3 : ∃ o, rLW5[3]? = some o ∧ o.dst = some 21 ∧ o.guard = none ∧ o.op = .call { callee := .value (.func 9), args := #[.tmp 20], argTypes := #[24] } := ⟨_, rfl, rfl, rfl, rfl⟩
theorem oLW5_4 : ∃ o, rLW5[4]? = some o ∧ o.dst = some 22 ∧ o.guard = none ∧ o.op = .call { callee := .value (.func 7), args := #[.tmp 19, .tmp 21], argTypes := #[28, 30] } := ⟨_, rfl, rfl, rfl, rfl⟩
theorem oLW5_5 : ∃ o, rLW5[5]? = some o ∧ o.dst = some 6 ∧ o.guard = none ∧ o.op = .assign (.tmp 22) := ⟨_, rfl, rfl, rfl, rfl⟩
theorem szLW6 : rLW6.size = 3 := by rfl
theorem oLW6_0 : ∃ o, rLW6[0]? = some o ∧ o.dst = some 23 ∧ o.guard = none ∧ o.op = .move (.tmp 1) := ⟨_, rfl, rfl, rfl, rfl⟩
theorem oLW6_1 : ∃ o, rLW6[1]? = some o ∧ o.dst = some 24 ∧ o.guard = none ∧ o.op = .call { callee := .value (.func 9), args := #[.tmp 23], argTypes := #[24] } := ⟨_, rfl, rfl, rfl, rfl⟩
theorem oLW6_2 : ∃ o, rLW6[2]? = some o ∧ o.dst = some 7 ∧ o.guard = none ∧ o.op = .assign (.tmp 24) := ⟨_, rfl, rfl, rfl, rfl⟩
theorem szLW7 : rLW7.size = 5 := by rfl
theorem oLW7_0 : ∃ o, rLW7[0]? = some o ∧ o.dst = some 25 ∧ o.guard = none ∧ o.op = .load 23 (.tmp 2) := ⟨_, rfl, rfl, rfl, rfl⟩
theorem oLW7_1 : ∃ o, rLW7[1]? = some o ∧ o.dst = some 26 ∧ o.guard = none ∧ o.op = .call { callee := .value (.func 8), args := #[.tmp 25], argTypes := #[23] } := ⟨_, rfl, rfl, rfl, rfl⟩
theorem oLW7_2 : ∃ o, rLW7[2]? = some o ∧ o.dst = some 27 ∧ o.guard = none ∧ o.op = .move (.tmp 7) := ⟨_, rfl, rfl, rfl, rfl⟩
theorem oLW7_3 : ∃ o, rLW7[3]? = some o ∧ o.dst = some 28 ∧ o.guard = none ∧ o.op = .call { callee := .value (.func 10), args := #[.tmp 26, .tmp 27], argTypes := #[28, 30] } := ⟨_, rfl, rfl, rfl, rfl⟩
theorem oLW7_4 : ∃ o, rLW7[4]? = some o ∧ o.dst = some 8 ∧ o.guard = none ∧ o.op = .assign (.tmp 28) := ⟨_, rfl, rfl, rfl, rfl⟩
theorem szLW8 : rLW8.size = 4 := by rfl
theorem oLW8_0 : ∃ o, rLW8[0]? = some o ∧ o.dst = some 29 ∧ o.guard = none ∧ o.op = .move (.tmp 8) := ⟨_, rfl, rfl, rfl, rfl⟩
theorem oLW8_1 : ∃ o, rLW8[1]? = some o ∧ o.dst = some 30 ∧ o.guard = none ∧ o.op = .move (.tmp 6) := ⟨_, rfl, rfl, rfl, rfl⟩
theorem oLW8_2 : ∃ o, rLW8[2]? = some o ∧ o.dst = some 31 ∧ o.guard = none ∧ o.op = .call { callee := .value (.func 11), args := #[.tmp 29, .tmp 30], argTypes := #[26, 26] } := ⟨_, rfl, rfl, rfl, rfl⟩
theorem oLW8_3 : ∃ o, rLW8[3]? = some o ∧ o.dst = some 32 ∧ o.guard = none ∧ o.op = .unOp .not 4 (.tmp 31) := ⟨_, rfl, rfl, rfl, rfl⟩
theorem szLW9 : rLW9.size = 1 := by rfl
theorem oLW9_0 : ∃ o, rLW9[0]? = some o ∧ o.dst = some 4 ∧ o.guard = none ∧ o.op = .assign (.const (.bool false)) := ⟨_, rfl, rfl, rfl, rfl⟩
theorem szLW10 : rLW10.size = 5 := by rfl
theorem oLW10_0 : ∃ o, rLW10[0]? = some o ∧ o.dst = some 33 ∧ o.guard = none ∧ o.op = .move (.tmp 7) := ⟨_, rfl, rfl, rfl, rfl⟩
theorem oLW10_1 : ∃ o, rLW10[1]? = some o ∧ o.dst = some 34 ∧ o.guard = none ∧ o.op = .move (.tmp 1) := ⟨_, rfl, rfl, rfl, rfl⟩
theorem oLW10_2 : ∃ o, rLW10[2]? = some o ∧ o.dst = some 35 ∧ o.guard = none ∧ o.op = .call { callee := .value (.func 9), args := #[.tmp 34], argTypes := #[24] } := ⟨_, rfl, rfl, rfl, rfl⟩
theorem oLW10_3 : ∃ o, rLW10[3]? = some o ∧ o.dst = some 36 ∧ o.guard = none ∧ o.op = .call { callee := .value (.func 12), args := #[.tmp 33, .tmp 35], argTypes := #[30, 30] } := ⟨_, rfl, rfl, rfl, rfl⟩
theorem oLW10_4 : ∃ o, rLW10[4]? = some o ∧ o.dst = some 37 ∧ o.guard = none ∧ o.op = .unOp .not 4 (.tmp 36) := ⟨_, rfl, rfl, rfl, rfl⟩
theorem szLW11 : rLW11.size = 1 := by rfl
theorem oLW11_0 : ∃ o, rLW11[0]? = some o ∧ o.dst = some 4 ∧ o.guard = none ∧ o.op = .assign (.const (.bool false)) := ⟨_, rfl, rfl, rfl, rfl⟩
theorem szLW12 : rLW12.size = 1 := by rfl
theorem oLW12_0 : ∃ o, rLW12[0]? = some o ∧ o.dst = some 9 ∧ o.guard = none ∧ o.op = .assign (.const (.int .i64 1)) := ⟨_, rfl, rfl, rfl, rfl⟩
theorem szLW13 : rLW13.size = 4 := by rfl
theorem oLW13_0 : ∃ o, rLW13[0]? = some o ∧ o.dst = some 38 ∧ o.guard = none ∧ o.op = .move (.tmp 7) := ⟨_, rfl, rfl, rfl, rfl⟩
theorem oLW13_1 : ∃ o, rLW13[1]? = some o ∧ o.dst = some 39 ∧ o.guard = none ∧ o.op = .move (.tmp 9) := ⟨_, rfl, rfl, rfl, rfl⟩
theorem oLW13_2 : ∃ o, rLW13[2]? = some o ∧ o.dst = some 40 ∧ o.guard = none ∧ o.op = .call { callee := .value (.func 13), args := #[.tmp 38, .tmp 39], argTypes := #[30, 3] } := ⟨_, rfl, rfl, rfl, rfl⟩
theorem oLW13_3 : ∃ o, rLW13[3]? = some o ∧ o.dst = some 9 ∧ o.guard = none ∧ o.op = .assign (.tmp 40) := ⟨_, rfl, rfl, rfl, rfl⟩
theorem szLW14 : rLW14.size = 8 := by rfl
theorem oLW14_0 : ∃ o, rLW14[0]? = some o ∧ o.dst = some 41 ∧ o.guard = none ∧ o.op = .move (.tmp 9) := ⟨_, rfl, rfl, rfl, rfl⟩
theorem oLW14_1 : ∃ o, rLW14[1]? = some o ∧ o.dst = some 42 ∧ o.guard = none ∧ o.op = .binOp .lss 3 (.tmp 41) (.const (.int .i64 0)) 3 := ⟨_, rfl, rfl, rfl, rfl⟩
theorem oLW14_2 : ∃ o, rLW14[2]? = some o ∧ o.dst = some 43 ∧ o.guard = none ∧ o.op = .move (.tmp 42) := ⟨_, rfl, rfl, rfl, rfl⟩
theorem oLW14_3 : ∃ o, rLW14[3]? = some o ∧ o.dst = some 44 ∧ o.guard = some (2, false) ∧ o.op = .move (.tmp 8) := ⟨_, rfl, rfl, rfl, rfl⟩
theorem oLW14_4 : ∃ o, rLW14[4]? = some o ∧ o.dst = some 45 ∧ o.guard = some (2, false) ∧ o.op = .move (.tmp 6) := ⟨_, rfl, rfl, rfl, rfl⟩
theorem oLW14_5 : ∃ o, rLW14[5]? = some o ∧ o.dst = some 46 ∧ o.guard = some (2, false) ∧ o.op = .call { callee := .value (.func 11), args := #[.tmp 44, .tmp 45], argTypes := #[26, 26] } := ⟨_, rfl, rfl, rfl, rfl⟩
theorem oLW14_6 : ∃ o, rLW14[6]? = some o ∧ o.dst = some 47 ∧ o.guard = some (2, false) ∧ o.op = .unOp .not 4 (.tmp 46) := ⟨_, rfl, rfl, rfl, rfl⟩
theorem oLW14_7 : ∃ o, rLW14[7]? = some o ∧ o.dst = some 48 ∧ o.guard = none ∧ o.op = .pick (.tmp 43) (.const (.bool true)) (.tmp 47) := ⟨_, rfl, rfl, rfl, rfl⟩
theorem szLW15 : rLW15.size = 1 := by rfl
theorem oLW15_0 : ∃ o, rLW15[0]? = some o ∧ o.dst = some 4 ∧ o.guard = none ∧ o.op = .assign (.const (.bool false)) := ⟨_, rfl, rfl, rfl, rfl⟩
theorem szLW16 : rLW16.size = 1 := by rfl
theorem oLW16_0 : ∃ o, rLW16[0]? = some o ∧ o.dst = some 10 ∧ o.guard = none ∧ o.op = .assign (.const (.int .i64 1)) := ⟨_, rfl, rfl, rfl, rfl⟩
theorem szLW17 : rLW17.size = 4 := by rfl
theorem oLW17_0 : ∃ o, rLW17[0]? = some o ∧ o.dst = some 49 ∧ o.guard = none ∧ o.op = .move (.tmp 8) := ⟨_, rfl, rfl, rfl, rfl⟩
theorem oLW17_1 : ∃ o, rLW17[1]? = some o ∧ o.dst = some 50 ∧ o.guard = none ∧ o.op = .move (.tmp 10) := ⟨_, rfl, rfl, rfl, rfl⟩
theorem oLW17_2 : ∃ o, rLW17[2]? = some o ∧ o.dst = some 51 ∧ o.guard = none ∧ o.op = .call { callee := .value (.func 14), args := #[.tmp 49, .tmp 50], argTypes := #[26, 3] } := ⟨_, rfl, rfl, rfl, rfl⟩
theorem oLW17_3 : ∃ o, rLW17[3]? = some o ∧ o.dst = some 10 ∧ o.guard = none ∧ o.op = .assign (.tmp 51) := ⟨_, rfl, rfl, rfl, rfl⟩
theorem szLW18 : rLW18.size = 1 := by rfl
theorem oLW18_0 : ∃ o, rLW18[0]? = some o ∧ o.dst = some 11 ∧ o.guard = none ∧ o.op = .assign (.const (.int .i64 1)) := ⟨_, rfl, rfl, rfl, rfl⟩
theorem szLW19 : rLW19.size = 4 := by rfl
theorem oLW19_0 : ∃ o, rLW19[0]? = some o ∧ o.dst = some 52 ∧ o.guard = none ∧ o.op = .move (.tmp 8) := ⟨_, rfl, rfl, rfl, rfl⟩
theorem oLW19_1 : ∃ o, rLW19[1]? = some o ∧ o.dst = some 53 ∧ o.guard = none ∧ o.op = .move (.tmp 11) := ⟨_, rfl, rfl, rfl, rfl⟩
theorem oLW19_2 : ∃ o, rLW19[2]? = some o ∧ o.dst = some 54 ∧ o.guard = none ∧ o.op = .call { callee := .value (.func 15), args := #[.tmp 52, .tmp 53], argTypes := #[26, 3] } := ⟨_, rfl, rfl, rfl, rfl⟩
theorem oLW19_3 : ∃ o, rLW19[3]? = some o ∧ o.dst = some 11 ∧ o.guard = none ∧ o.op = .assign (.tmp 54) := ⟨_, rfl, rfl, rfl, rfl⟩
theorem szLW20 : rLW20.size = 2 := by rfl
theorem oLW20_0 : ∃ o, rLW20[0]? = some o ∧ o.dst = some 55 ∧ o.guard = none ∧ o.op = .move (.tmp 11) := ⟨_, rfl, rfl, rfl, rfl⟩
theorem oLW20_1 : ∃ o, rLW20[1]? = some o ∧ o.dst = some 56 ∧ o.guard = none ∧ o.op = .binOp .lss 3 (.tmp 55) (.const (.int .i64 0)) 3 := ⟨_, rfl, rfl, rfl, rfl⟩
theorem szLW21 : rLW21.size = 1 := by rfl
theorem oLW21_0 : ∃ o, rLW21[0]? = some o ∧ o.dst = some 4 ∧ o.guard = none ∧ o.op = .assign (.const (.bool false)) := ⟨_, rfl, rfl, rfl, rfl⟩
theorem szLW22 : rLW22.size = 3 := by rfl
theorem oLW22_0 : ∃ o, rLW22[0]? = some o ∧ o.dst = some 57 ∧ o.guard = none ∧ o.op = .move (.tmp 11) := ⟨_, rfl, rfl, rfl, rfl⟩
theorem oLW22_1 : ∃ o, rLW22[1]? = some o ∧ o.dst = some 58 ∧ o.guard = none ∧ o.op = .move (.tmp 10) := ⟨_, rfl, rfl, rfl, rfl⟩
theorem oLW22_2 : ∃ o, rLW22[2]? = some o ∧ o.dst = some 59 ∧ o.guard = none ∧ o.op = .binOp .neq 3 (.tmp 57) (.tmp 58) 3 := ⟨_, rfl, rfl, rfl, rfl⟩
theorem szLW23 : rLW23.size = 1 := by rfl
theorem oLW23_0 : ∃ o, rLW23[0]? = some o ∧ o.dst = some 4 ∧ o.guard = none ∧ o.op = .assign (.const (.bool false)) := ⟨_, rfl, rfl, rfl, rfl⟩
theorem szLW24 : rLW24.size = 6 := by rfl
theorem oLW24_0 : ∃ o, rLW24[0]? = some o ∧ o.dst = some 60 ∧ o.guard = none ∧ o.op = .load 23 (.tmp 2) := ⟨_, rfl, rfl, rfl, rfl⟩
theorem oLW24_1 : ∃ o, rLW24[1]? = some o ∧ o.dst = some 61 ∧ o.guard = none ∧ o.op = .call { callee := .value (.func 8), args := #[.tmp 60], argTypes := #[23] } := ⟨_, rfl, rfl, rfl, rfl⟩
theorem oLW24_2 : ∃ o, rLW24[2]? = some o ∧ o.dst = some 62 ∧ o.guard = none ∧ o.op = .move (.tmp 1) := ⟨_, rfl, rfl, rfl, rfl⟩
theorem oLW24_3 : ∃ o, rLW24[3]? = some o ∧ o.dst = some 63 ∧ o.guard = none ∧ o.op = .call { callee := .value (.func 9), args := #[.tmp 62], argTypes := #[24] } := ⟨_, rfl, rfl, rfl, rfl⟩
theorem oLW24_4 : ∃ o, rLW24[4]? = some o ∧ o.dst = some 64 ∧ o.guard = none ∧ o.op = .call { callee := .value (.func 10), args := #[.tmp 61, .tmp 63], argTypes := #[28, 30] } := ⟨_, rfl, rfl, rfl, rfl⟩
theorem oLW24_5 : ∃ o, rLW24[5]? = some o ∧ o.dst = some 12 ∧ o.guard = none ∧ o.op = .assign (.tmp 64) := ⟨_, rfl, rfl, rfl, rfl⟩
theorem szLW25 : rLW25.size = 4 := by rfl
theorem oLW25_0 : ∃ o, rLW25[0]? = some o ∧ o.dst = some 65 ∧ o.guard = none ∧ o.op = .move (.tmp 12) := ⟨_, rfl, rfl, rfl, rfl⟩
theorem oLW25_1 : ∃ o, rLW25[1]? = some o ∧ o.dst = some 66 ∧ o.guard = none ∧ o.op = .move (.tmp 6) := ⟨_, rfl, rfl, rfl, rfl⟩
theorem oLW25_2 : ∃ o, rLW25[2]? = some o ∧ o.dst = some 67 ∧ o.guard = none ∧ o.op = .call { callee := .value (.func 11), args := #[.tmp 65, .tmp 66], argTypes := #[26, 26] } := ⟨_, rfl, rfl, rfl, rfl⟩
theorem oLW25_3 : ∃ o, rLW25[3]? = some o ∧ o.dst = some 68 ∧ o.guard = none ∧ o.op = .unOp .not 4 (.tmp 67) := ⟨_, rfl, rfl, rfl, rfl⟩
theorem szLW26 : rLW26.size = 1 := by rfl
theorem oLW26_0 : ∃ o, rLW26[0]? = some o ∧ o.dst = some 4 ∧ o.guard = none ∧ o.op = .assign (.const (.bool false)) := ⟨_, rfl, rfl, rfl, rfl⟩
theorem szLW27 : rLW27.size = 1 := by rfl
theorem oLW27_0 : ∃ o, rLW27[0]? = some o ∧ o.dst = some 11 ∧ o.guard = none ∧ o.op = .assign (.const (.int .i64 1)) := ⟨_, rfl, rfl, rfl, rfl⟩
theorem szLW28 : rLW28.size = 4 := by rfl
theorem oLW28_0 : ∃ o, rLW28[0]? = some o ∧ o.dst = some 69 ∧ o.guard = none ∧ o.op = .move (.tmp 8) := ⟨_, rfl, rfl, rfl, rfl⟩
theorem oLW28_1 : ∃ o, rLW28[1]? = some o ∧ o.dst = some 70 ∧ o.guard = none ∧ o.op = .move (.tmp 11) := ⟨_, rfl, rfl, rfl, rfl⟩
theorem oLW28_2 : ∃ o, rLW28[2]? = some o ∧ o.dst = some 71 ∧ o.guard = none ∧ o.op = .call { callee := .value (.func 15), args := #[.tmp 69, .tmp 70], argTypes := #[26, 3] } := ⟨_, rfl, rfl, rfl, rfl⟩
theorem oLW28_3 : ∃ o, rLW28[3]? = some o ∧ o.dst = some 11 ∧ o.guard = none ∧ o.op = .assign (.tmp 71) := ⟨_, rfl, rfl, rfl, rfl⟩
theorem szLW29 : rLW29.size = 2 := by rfl
theorem oLW29_0 : ∃ o, rLW29[0]? = some o ∧ o.dst = some 72 ∧ o.guard = none ∧ o.op = .move (.tmp 11) := ⟨_, rfl, rfl, rfl, rfl⟩
theorem oLW29_1 : ∃ o, rLW29[1]? = some o ∧ o.dst = some 73 ∧ o.guard = none ∧ o.op = .binOp .lss 3 (.tmp 72) (.const (.int .i64 0)) 3 := ⟨_, rfl, rfl, rfl, rfl⟩
theorem szLW30 : rLW30.size = 1 := by rfl
theorem oLW30_0 : ∃ o, rLW30[0]? = some o ∧ o.dst = some 4 ∧ o.guard = none ∧ o.op = .assign (.const (.bool false)) := ⟨_, rfl, rfl, rfl, rfl⟩
theorem szLW31 : rLW31.size = 3 := by rfl
theorem oLW31_0 : ∃ o, rLW31[0]? = some o ∧ o.dst = some 74 ∧ o.guard = none ∧ o.op = .move (.tmp 11) := ⟨_, rfl, rfl, rfl, rfl⟩
theorem oLW31_1 : ∃ o, rLW31[1]? = some o ∧ o.dst = some 75 ∧ o.guard = none ∧ o.op = .move (.tmp 10) := ⟨_, rfl, rfl, rfl, rfl⟩
theorem oLW31_2 : ∃ o, rLW31[2]? = some o ∧ o.dst = some 76 ∧ o.guard = none ∧ o.op = .binOp .neq 3 (.tmp 74) (.tmp 75) 3 := ⟨_, rfl, rfl, rfl, rfl⟩
theorem szLW32 : rLW32.size = 1 := by rfl
theorem oLW32_0 : ∃ o, rLW32[0]? = some o ∧ o.dst = some 4 ∧ o.guard = none ∧ o.op = .assign (.const (.bool false)) := ⟨_, rfl, rfl, rfl, rfl⟩
theorem szLW33 : rLW33.size = 1 := by rfl
theorem oLW33_0 : ∃ o, rLW33[0]? = some o ∧ o.dst = some 4 ∧ o.guard = none ∧ o.op = .assign (.const (.bool true)) := ⟨_, rfl, rfl, rfl, rfl⟩

end Go.Proofs.Ytdjnnhdeijnhgab.Rn

/-
  Watch, the program's: its entry.
-/
namespace Go.Proofs.Ytdjnnhdeijnhgab.Rn
open Go Go.Conc Va Go.RowKit
set_option linter.all false
set_option maxRecDepth 20000

noncomputable def bW : Frame := { (default : Frame) with fn := 10, kind := .normal }
noncomputable def a0W (v u : Value) : Act := ⟨#[v, u, undef, undef, undef, undef, undef, undef, undef, undef, undef, undef, undef, undef, undef, undef, undef, undef, undef, undef, undef, undef], []⟩
set_option maxHeartbeats 4000000 in
theorem enterW (v u : Value) : Frame.enter Try.prog 10 #[v, u] .normal = bW.at (a0W v u) [.code bodyW] := by
  have hf : Try.prog.funcs[10]? = some Try.f10 := Try.func10
  have hn : Try.f10.ntmps = 22 := Try.ntmps10
  unfold Frame.enter
  simp only [hf, Option.map_some, Option.bind_some, bodyW_some, Option.getD_some, hn]
  rfl
end Go.Proofs.Ytdjnnhdeijnhgab.Rn
