/-
  Quiet's closure: what it does with a tick; what it is told and tells.
-/
import Derived.Test.YtdjnnhdeijnhgabMw3
import Derived.Test.YtdjnnhdeijnhgabMw14
import Derived.Test.YtdjnnhdeijnhgabProg
import Derived.ProofKit
namespace Go.Proofs.Ytdjnnhdeijnhgab
open Go.RowKit Va Rn
set_option linter.all false

/-- The kept ones of the first k lie at what the box K says. -/
def JQ (b0 K : Nat) (l : List Tk) (k : Nat) (w : World) : Prop :=
  ∃ sv, w.heap[K]? = some (.cells #[sv] 30 (0, 0)) ∧ b0 ≤ w.heap.size ∧ RowP w b0 42 3 sv ((l.take k).filter keepB).length (vcellsL 3 cvTk ((l.take k).filter keepB))
theorem rowP_ne {w : World} {b0 K n : Nat} {v sv : Value} {xs : List Value} (h : RowP w b0 42 3 v n xs) (hK : w.heap[K]? = some (.cells #[sv] 30 (0, 0))) : ∀ g, v.ownBlock = some g → g ≠ K := by
  intro g hg e
  subst e
  rcases h.own.2 with ⟨rfl, -⟩ | ⟨g', cap, cur, rfl, hb, hh, -⟩
  · cases hg
  · obtain rfl : g' = g := by simpa [Value.ownBlock] using hg
    rw [hK] at hh
    have h1 := Option.some.inj hh
    injection h1 with h2 h3
    exact absurd h3 (by decide)
theorem tells_JQ {b0 K base : Nat} {l : List Tk} {k : Nat} (hK : K < base) (hb : b0 ≤ base) : Tells base (JQ b0 K l k) := by
  refine ⟨fun f w w' hf hf2 he ⟨sv, h1, h2, h3⟩ => ?_, fun w ⟨sv, h1, h2, h3⟩ => ?_⟩
  · have hb0 : ∀ b, b0 ≤ b → b < w.heap.size → b0 ≤ f b := fun b q1 q2 => by
      rcases Nat.lt_or_ge b base with q | q
      · rw [hf b q]; exact q1
      · exact Nat.le_trans hb (hf2 b q q2)
    refine ⟨rV f sv, ?_, ?_, h3.emb he hb0⟩
    · have := he.cells K _ _ _ h1
      rw [hf K hK] at this
      simpa using this
    · have hlt : K < w.heap.size := (Array.getElem?_eq_some_iff.1 h1).1
      have h4 := he.lt (w.heap.size - 1) (by omega)
      rcases Nat.lt_or_ge (w.heap.size - 1) b0 with q | q
      · rw [hf (w.heap.size - 1) (by omega)] at h4
        omega
      · have := hb0 _ q (by omega)
        omega
  · refine ⟨fun b => b = K ∨ sv.ownBlock = some b, fun b hbD => ?_, fun w' hs hD => ⟨sv, (hD K (.inl rfl)).trans h1, by rw [hs]; exact h2, h3.same fun g hg => hD g (.inr hg)⟩⟩
    rcases hbD with rfl | hbD
    · refine ⟨_, _, _, h1, fun v hv => ?_⟩
      simp only [List.mem_toArray, List.mem_singleton] at hv
      subst hv
      exact h3.low
    · rcases h3.own.2 with ⟨rfl, -⟩ | ⟨g', cap, cur, rfl, hb', hh, -⟩
      · cases hbD
      · obtain rfl : g' = b := by simpa [Value.ownBlock] using hbD
        exact ⟨_, _, _, hh, fun v hv => (h3.plain g' cur _ _ rfl hh v hv).mono (Nat.zero_le _)⟩
theorem rowP_slice {w : World} {b e s n : Nat} {v : Value} {xs : List Value} (h : RowP w b e s v n xs) : ∃ ad c, v = .slice ad n c := ownW_slice h.own

theorem Rn.RowP.alloc {w : World} {b e s n : Nat} {v : Value} {xs : List Value} (h : RowP w b e s v n xs) (o : Obj) : RowP (w.alloc o) b e s v n xs :=
  h.same fun g hg => heap_alloc_old w o (h.own.lt g hg).2
/-- Behind the store of what has been appended. -/
theorem jq_store {b0 K n : Nat} {l : List Tk} {k : Nat} {w w2 w5 : World} {sv v5 : Value} {xs : List Value} (h1 : w.heap[K]? = some (.cells #[sv] 30 (0, 0))) (h2 : b0 ≤ w.heap.size) (hw : ∀ b, b < w.heap.size → w2.heap[b]? = w.heap[b]?) (hs : w.heap.size ≤ w2.heap.size) (h3 : RowP w b0 42 3 sv n xs)
    (hg5 : w2.grownBy w5 sv.ownBlock) (h5 : RowP w5 b0 42 3 v5 ((l.take k).filter keepB).length (vcellsL 3 cvTk ((l.take k).filter keepB))) : (w5.cell? ⟨K, 0, none⟩ = some sv ∧ w5.frozen? ⟨K, 0, none⟩ = false) ∧ JQ b0 K l k (w5.setCell ⟨K, 0, none⟩ v5) := by
  have hlt : K < w.heap.size := (Array.getElem?_eq_some_iff.1 h1).1
  have hK5 : w5.heap[K]? = some (.cells #[sv] 30 (0, 0)) := by
    rw [hg5.block K (by omega) (fun e => rowP_ne h3 h1 K e.symm rfl), hw K hlt]
    exact h1
  refine ⟨⟨by unfold World.cell?; simp [hK5], by unfold World.frozen?; simp [hK5]⟩, v5, ?_, ?_, ?_⟩
  · rw [setCell_eq_setRow w5 K 0 #[sv] _ (0, 0) v5 hK5]
    exact setRow_heap w5 K #[sv] _ _ _ hK5
  · rw [setCell_eq_setRow w5 K 0 #[sv] _ (0, 0) v5 hK5]
    have := hg5.size
    unfold World.setRow
    simp
    omega
  · rw [setCell_eq_setRow w5 K 0 #[sv] _ (0, 0) v5 hK5]
    exact h5.same fun g hg => setRow_other w5 K g _ (rowP_ne h5 hK5 g hg)
theorem zeroTk_low : ∀ u ∈ (Value.agg #[.int .i64 0, .bool false, .bool false]).cells, Low 0 u := by
  intro u hu
  simp only [Value.cells, List.mem_toArray, List.mem_cons, List.not_mem_nil, or_false] at hu
  rcases hu with rfl | rfl | rfl <;> exact fun f g _ => by simp
theorem tick_low (v : Int) (k h : Bool) : ∀ u ∈ [Value.int .i64 v, .bool k, .bool h], Low 0 u := by
  intro u hu
  simp only [List.mem_cons, List.not_mem_nil, or_false] at hu
  rcases hu with rfl | rfl | rfl <;> exact fun f g _ => by simp
theorem cell_three1 (w : World) (o : Obj) (a b c : Value) (t : TypeId) : ∀ (j : Nat) (u : Value), [a, b, c][j]? = some u → ((w.alloc o).alloc (.cells #[a, b, c] t)).cell? ((⟨w.heap.size + 1, 0, none⟩ : Addr).add j) = some u := by
  have := cell_threeQ (w.alloc o) a b c t
  simpa using this
set_option maxRecDepth 20000 in
set_option maxHeartbeats 8000000 in
theorem quiet1_any {b0 K : Nat} {l : List Tk} {k : Nat} {x : Tk} (hl : l.length ≤ 2000) (hx : l[k]? = some x) (w : World) (h : JQ b0 K l k w) :
    Calls Try.prog 32 #[aTk x, .pointer (some ⟨K, 0, none⟩)] w fun e w' => e = .returned (.tuple #[]) ∧ JQ b0 K l (k + 1) w' := by
  have HJ := hidden h
  obtain ⟨sv, h1, h2, h3⟩ := h
  obtain ⟨i0, hi0, hy0, hy1, hy2⟩ := info_parts infoTickQ
  have HF := hidden (filter_next hx)
  have HKP : Hid (keepB x = (x.k || x.h)) := rfl
  have hlen := filter_len l k
  have hkl := (List.getElem?_eq_some_iff.1 hx).1
  obtain ⟨L, hL⟩ : ∃ L, L = (l.take k).filter keepB := ⟨_, rfl⟩
  rw [← hL] at h3 hlen
  have HL : Hid (L = (l.take k).filter keepB) := hL
  clear hL
  obtain ⟨ad, c, rfl⟩ := rowP_slice h3
  have hlt : K < w.heap.size := (Array.getElem?_eq_some_iff.1 h1).1
  have cK : w.cell? ⟨K, 0, none⟩ = some (.slice ad L.length c) := by unfold World.cell?; simp [h1]
  have fK : w.frozen? ⟨K, 0, none⟩ = false := by unfold World.frozen?; simp [h1]
  obtain ⟨xv, xk, xh⟩ := x
  unfold aTk
  have H1 := hidden h1
  have H3 := hidden h3
  clear h1 h3 hx
  dsimp only
  cases xk <;> cases xh
  · have HN : Hid ((l.take (k + 1)).filter keepB = (l.take k).filter keepB) := by rw [Hid, HF.out, HKP.out]; simp
    go_enter Try.func32, Try.ntmps32
    go_wp2_with fail
    go_end0
    refine ⟨rfl, .slice ad L.length c, ?_, by simp; omega, ?_⟩
    · exact (heap_alloc_old w _ hlt).trans H1.out
    · rw [HN.out, ← HL.out]
      exact H3.out.alloc _
  · have HN : Hid ((l.take (k + 1)).filter keepB = L ++ [(⟨xv, false, true⟩ : Tk)]) := by rw [Hid, HF.out, HL.out, HKP.out]; rfl
    go_enter Try.func32, Try.ntmps32
    go_wp2_with (at_builtin; refine wpList_append_plain _ rfl (.tmp 9) (.tmp 11) 30 rfl b0 42 i0 (.agg #[.int .i64 0, .bool false, .bool false]) 3 16 Try.underlying30 hi0 hy0 hy1 hy2 rfl (by decide) zeroTk_low _ L.length (vcellsL 3 cvTk L) rfl ((H3.out.alloc _).alloc _) ⟨w.heap.size + 1, 0, none⟩ 1 1 [.int .i64 xv, .bool false, .bool true] (by decide) rfl rfl (cell_three1 _ _ _ _ _ _) (by simp [Value.oneCell']) (tick_low _ _ _) (by unfold maxLen; omega) (by omega) (by simp; omega) ?_; intro v5 w5 ho5 hg5; obtain ⟨ad5, cc5, rfl⟩ := rowP_slice ho5; obtain ⟨⟨c5, f5⟩, HJ5⟩ := jq_store (l := l) (k := k + 1) H1.out h2 (fun b hb => (heap_alloc_old _ _ (by simp; omega)).trans (heap_alloc_old _ _ hb)) (by simp; omega) H3.out hg5 (by rw [HN.out, List.length_append, vcellsL_app]; exact ho5); have HJ6 := hidden HJ5; clear HJ5)
    go_end0
    exact ⟨rfl, HJ6.out⟩
  · have HN : Hid ((l.take (k + 1)).filter keepB = L ++ [(⟨xv, true, false⟩ : Tk)]) := by rw [Hid, HF.out, HL.out, HKP.out]; rfl
    go_enter Try.func32, Try.ntmps32
    go_wp2_with (at_builtin; refine wpList_append_plain _ rfl (.tmp 9) (.tmp 11) 30 rfl b0 42 i0 (.agg #[.int .i64 0, .bool false, .bool false]) 3 16 Try.underlying30 hi0 hy0 hy1 hy2 rfl (by decide) zeroTk_low _ L.length (vcellsL 3 cvTk L) rfl ((H3.out.alloc _).alloc _) ⟨w.heap.size + 1, 0, none⟩ 1 1 [.int .i64 xv, .bool true, .bool false] (by decide) rfl rfl (cell_three1 _ _ _ _ _ _) (by simp [Value.oneCell']) (tick_low _ _ _) (by unfold maxLen; omega) (by omega) (by simp; omega) ?_; intro v5 w5 ho5 hg5; obtain ⟨ad5, cc5, rfl⟩ := rowP_slice ho5; obtain ⟨⟨c5, f5⟩, HJ5⟩ := jq_store (l := l) (k := k + 1) H1.out h2 (fun b hb => (heap_alloc_old _ _ (by simp; omega)).trans (heap_alloc_old _ _ hb)) (by simp; omega) H3.out hg5 (by rw [HN.out, List.length_append, vcellsL_app]; exact ho5); have HJ6 := hidden HJ5; clear HJ5)
    go_end0
    exact ⟨rfl, HJ6.out⟩
  · have HN : Hid ((l.take (k + 1)).filter keepB = L ++ [(⟨xv, true, true⟩ : Tk)]) := by rw [Hid, HF.out, HL.out, HKP.out]; rfl
    go_enter Try.func32, Try.ntmps32
    go_wp2_with (at_builtin; refine wpList_append_plain _ rfl (.tmp 9) (.tmp 11) 30 rfl b0 42 i0 (.agg #[.int .i64 0, .bool false, .bool false]) 3 16 Try.underlying30 hi0 hy0 hy1 hy2 rfl (by decide) zeroTk_low _ L.length (vcellsL 3 cvTk L) rfl ((H3.out.alloc _).alloc _) ⟨w.heap.size + 1, 0, none⟩ 1 1 [.int .i64 xv, .bool true, .bool true] (by decide) rfl rfl (cell_three1 _ _ _ _ _ _) (by simp [Value.oneCell']) (tick_low _ _ _) (by unfold maxLen; omega) (by omega) (by simp; omega) ?_; intro v5 w5 ho5 hg5; obtain ⟨ad5, cc5, rfl⟩ := rowP_slice ho5; obtain ⟨⟨c5, f5⟩, HJ5⟩ := jq_store (l := l) (k := k + 1) H1.out h2 (fun b hb => (heap_alloc_old _ _ (by simp; omega)).trans (heap_alloc_old _ _ hb)) (by simp; omega) H3.out hg5 (by rw [HN.out, List.length_append, vcellsL_app]; exact ho5); have HJ6 := hidden HJ5; clear HJ5)
    go_end0
    exact ⟨rfl, HJ6.out⟩
end Go.Proofs.Ytdjnnhdeijnhgab

/-
  A row of ticks that are right: the program's and the specification's look at them.
-/
namespace Go.Proofs.Ytdjnnhdeijnhgab
open Go.RowKit Va
set_option linter.all false

set_option maxRecDepth 20000 in
set_option maxHeartbeats 8000000 in
theorem iticks_any (v : Value) (l : List Tk) (w : World) (h : VRw 3 cvTk w v l) (hn : l.length ≤ 1048576) :
    Calls Try.prog 25 #[v] w fun e w' => e = .returned (.bool (tksB l)) ∧ Below w.heap.size w w' := by
  have HR := hidden h
  obtain ⟨ao, cap, rfl⟩ := h.form
  clear h
  by_cases g1 : (2000 : Int) < (l.length : Int)
  · have HY : Hid (tksB l = false) := tksB_big (by omega)
    go_enter Try.func25, Try.ntmps25
    go_wp2_with fail
    go_ret
    exact ⟨ret_boolQ HY.out.symm, Below.refl _ _⟩
  go_enter Try.func25, Try.ntmps25
  go_wp2_with fail
  go_loopw [10, 4] (fun iv _ wr => ∃ i : Nat, i ≤ l.length ∧ iv = .int .i64 i ∧ Hid (TkTo l i) ∧ Below w.heap.size w wr) (fun iv _ _ => l.length - (intOf iv).toNat)
  case atStart => exact ⟨0, Nat.zero_le _, rfl, (fun j r hj => absurd hj (by omega)), Below.refl _ _⟩
  case round =>
    obtain ⟨i, hi, rfl, hok, hb⟩ := hrel
    by_cases hlt : i < l.length
    · have hlti : (i : Int) < (l.length : Int) := by omega
      have hi0 : (0 : Int) ≤ (i : Int) := by omega
      obtain ⟨x, hx⟩ := some_of l i hlt
      obtain ⟨g, off, rfl, hg, hcs⟩ := (HR.out.below hb).at hx
      have c0 : wr.cell? ⟨g, off + i * 3, none⟩ = some (.int .i64 x.v) := hcs 0 (by omega)
      have c1 : wr.cell? ⟨g, off + i * 3 + 1, none⟩ = some (.bool x.k) := hcs 1 (by omega)
      have c2 : wr.cell? ⟨g, off + i * 3 + 2, none⟩ = some (.bool x.h) := hcs 2 (by omega)
      have HX := hidden hx
      have kR := qright_any x
      unfold aTk at kR
      have bx : Below w.heap.size w (wr.alloc (.cells #[.int .i64 x.v, .bool x.k, .bool x.h] 42)) := hb.trans ((Below.refl wr.heap.size wr).alloc (Nat.le_refl _) _ |>.mono hb.size)
      clear hx hcs
      cases hB : tkB x with
      | false =>
        rw [hB] at kR
        go_wp2_with (go_at_call 35; refine (kR _).mono ?_; rintro e w2 ⟨rfl, hb2⟩)
        go_ret
        exact ⟨ret_boolQ (tksB_bad HX.out hB).symm, onto bx hb2⟩
      | true =>
        rw [hB] at kR
        go_wp2_with (go_at_call 35; refine (kR _).mono ?_; rintro e w2 ⟨rfl, hb2⟩)
        have b2 := onto bx hb2
        go_roundw
        case rel => exact ⟨i + 1, by omega, rfl, hok.out.next HX.out hB, b2⟩
        case measure => simp [intOf]; omega
    · have hlti : ¬ (i : Int) < (l.length : Int) := by omega
      have hil : i = l.length := by omega
      subst hil
      go_wp2_with fail
      go_ret
      exact ⟨ret_boolQ (tksB_good (by omega) hok.out).symm, hb⟩
end Go.Proofs.Ytdjnnhdeijnhgab

/-
  The code of sendTicks and of forEachTick, in pieces.
-/
namespace Go.Proofs.Ytdjnnhdeijnhgab.Rn
open Go Go.Conc
set_option linter.all false
set_option maxRecDepth 100000

def cA : Code → Code | .seq a _ => a | .block _ a => a | .loop a => a | .cond _ a _ => a | c => c
def cB : Code → Code | .seq _ b => b | .cond _ _ b => b | c => c
def regOps : Code → Array Oper | .region _ ops _ => ops | _ => #[]
noncomputable def bodyS : Code := (Try.f36.body).getD .skip
noncomputable def LcS : Code := cA (cA (cB (cA bodyS)))
noncomputable def XcS : Code := cB (cB LcS)
noncomputable def rS0 : Array Oper := regOps (cA (cA bodyS))
noncomputable def rS1 : Array Oper := regOps (cA LcS)
noncomputable def rS2 : Array Oper := regOps (cA (cA (cA XcS)))
noncomputable def rS3 : Array Oper := regOps (cB (cA (cA XcS)))
noncomputable def rS4 : Array Oper := regOps (cB XcS)
noncomputable def rS5 : Array Oper := regOps (cB bodyS)
theorem bodyS_some : Try.f36.body = some bodyS := by rfl
theorem bodyS_eq : bodyS = (((Code.region 0 rS0 false).seq (Code.block 0 (Code.loop LcS))).seq (Code.region 5 rS5 false)) := by rfl
theorem LcS_eq : LcS = (Code.region 1 rS1 false).seq ((Code.cond (.tmp 9) .skip (.exit 0)).seq XcS) := by rfl
theorem XcS_eq : XcS = (Code.block 1 ((Code.region 2 rS2 false).seq (Code.region 3 rS3 false))).seq (Code.region 4 rS4 false) := by rfl
noncomputable def bodyF : Code := (Try.f26.body).getD .skip
noncomputable def LcF : Code := cA (cA (cB (cB bodyF)))
noncomputable def XcF : Code := cA (cA (cB (cB (cA LcF))))
noncomputable def rF0 : Array Oper := regOps (cA bodyF)
noncomputable def rF1 : Array Oper := regOps (cA (cB bodyF))
noncomputable def rF2 : Array Oper := regOps (cA (cA LcF))
noncomputable def rF3 : Array Oper := regOps (cA (cB (cA LcF)))
noncomputable def rF4 : Array Oper := regOps (cA XcF)
noncomputable def rF5 : Array Oper := regOps (cA (cA (cB XcF)))
noncomputable def rF6 : Array Oper := regOps (cB (cB XcF))
theorem bodyF_some : Try.f26.body = some bodyF := by rfl
theorem bodyF_eq : bodyF = (Code.region 0 rF0 false).seq ((Code.region 1 rF1 false).seq (Code.block 0 (Code.loop LcF))) := by rfl
theorem LcF_eq : LcF = Code.block 1 ((Code.region 2 rF2 false).seq ((Code.region 3 rF3 false).seq (Code.block 2 (.cond (.tmp 13) XcF .skip)))) := by rfl
theorem XcF_eq : XcF = (Code.region 4 rF4 false).seq (((Code.region 5 rF5 false).seq (.cond (.tmp 17) .ret .skip)).seq (Code.region 6 rF6 false)) := by rfl
theorem szS0 : rS0.size = 3 := by rfl
theorem oS00 : ∃ o, rS0[0]? = some o ∧ o.dst = some 6 ∧ o.guard = none ∧ o.op = .move (.tmp 0) := ⟨_, rfl, rfl, rfl, rfl⟩
theorem oS01 : ∃ o, rS0[1]? = some o ∧ o.dst = some 7 ∧ o.guard = none ∧ o.op = .call { callee := .builtin .len, args := #[.tmp 6], argTypes := #[30] } := ⟨_, rfl, rfl, rfl, rfl⟩
theorem oS02 : ∃ o, rS0[2]? = some o ∧ o.dst = some 8 ∧ o.guard = none ∧ o.op = .move (.const (.int .i64 0)) := ⟨_, rfl, rfl, rfl, rfl⟩
theorem szS1 : rS1.size = 1 := by rfl
theorem oS10 : ∃ o, rS1[0]? = some o ∧ o.dst = some 9 ∧ o.guard = none ∧ o.op = .binOp .lss 3 (.tmp 8) (.tmp 7) 3 := ⟨_, rfl, rfl, rfl, rfl⟩
theorem szS2 : rS2.size = 4 := by rfl
theorem oS20 : ∃ o, rS2[0]? = some o ∧ o.dst = some 10 ∧ o.guard = none ∧ o.op = .indexAddr 30 (.tmp 6) (.tmp 8) := ⟨_, rfl, rfl, rfl, rfl⟩
theorem oS21 : ∃ o, rS2[1]? = some o ∧ o.dst = some 11 ∧ o.guard = none ∧ o.op = .load 42 (.tmp 10) := ⟨_, rfl, rfl, rfl, rfl⟩
theorem oS22 : ∃ o, rS2[2]? = some o ∧ o.dst = some 5 ∧ o.guard = none ∧ o.op = .alloc 42 := ⟨_, rfl, rfl, rfl, rfl⟩
theorem oS23 : ∃ o, rS2[3]? = some o ∧ o.dst = none ∧ o.guard = none ∧ o.op = .store 42 (.tmp 5) (.tmp 11) := ⟨_, rfl, rfl, rfl, rfl⟩
theorem szS3 : rS3.size = 3 := by rfl
theorem oS30 : ∃ o, rS3[0]? = some o ∧ o.dst = some 12 ∧ o.guard = none ∧ o.op = .move (.tmp 1) := ⟨_, rfl, rfl, rfl, rfl⟩
theorem oS31 : ∃ o, rS3[1]? = some o ∧ o.dst = some 13 ∧ o.guard = none ∧ o.op = .load 42 (.tmp 5) := ⟨_, rfl, rfl, rfl, rfl⟩
theorem oS32 : ∃ o, rS3[2]? = some o ∧ o.dst = none ∧ o.guard = none ∧ o.op = .send (.tmp 12) (.tmp 13) := ⟨_, rfl, rfl, rfl, rfl⟩
theorem szS4 : rS4.size = 2 := by rfl
theorem oS40 : ∃ o, rS4[0]? = some o ∧ o.dst = some 14 ∧ o.guard = none ∧ o.op = .binOp .add 3 (.tmp 8) (.const (.int .i64 1)) 3 := ⟨_, rfl, rfl, rfl, rfl⟩
theorem oS41 : ∃ o, rS4[1]? = some o ∧ o.dst = some 8 ∧ o.guard = none ∧ o.op = .move (.tmp 14) := ⟨_, rfl, rfl, rfl, rfl⟩
theorem szS5 : rS5.size = 2 := by rfl
theorem oS50 : ∃ o, rS5[0]? = some o ∧ o.dst = some 15 ∧ o.guard = none ∧ o.op = .move (.tmp 1) := ⟨_, rfl, rfl, rfl, rfl⟩
theorem oS51 : ∃ o, rS5[1]? = some o ∧ o.dst = none ∧ o.guard = none ∧ o.op = .call { callee := .builtin .close, args := #[.tmp 15], argTypes := #[59] } := ⟨_, rfl, rfl, rfl, rfl⟩
theorem szF0 : rF0.size = 2 := by rfl
theorem oF00 : ∃ o, rF0[0]? = some o ∧ o.dst = some 7 ∧ o.guard = none ∧ o.op = .makeChan 55 (.const (.int .i64 0)) := ⟨_, rfl, rfl, rfl, rfl⟩
theorem oF01 : ∃ o, rF0[1]? = some o ∧ o.dst = some 4 ∧ o.guard = none ∧ o.op = .assign (.tmp 7) := ⟨_, rfl, rfl, rfl, rfl⟩
theorem szF1 : rF1.size = 3 := by rfl
theorem oF10 : ∃ o, rF1[0]? = some o ∧ o.dst = some 8 ∧ o.guard = none ∧ o.op = .move (.tmp 0) := ⟨_, rfl, rfl, rfl, rfl⟩
theorem oF11 : ∃ o, rF1[1]? = some o ∧ o.dst = some 9 ∧ o.guard = none ∧ o.op = .move (.tmp 4) := ⟨_, rfl, rfl, rfl, rfl⟩
theorem oF12 : ∃ o, rF1[2]? = some o ∧ o.dst = none ∧ o.guard = none ∧ o.op = .go { callee := .value (.func 36), args := #[.tmp 8, .tmp 9], argTypes := #[30, 59] } := ⟨_, rfl, rfl, rfl, rfl⟩
theorem szF2 : rF2.size = 1 := by rfl
theorem oF20 : ∃ o, rF2[0]? = some o ∧ o.dst = some 10 ∧ o.guard = none ∧ o.op = .move (.tmp 4) := ⟨_, rfl, rfl, rfl, rfl⟩
theorem szF3 : rF3.size = 3 := by rfl
theorem oF30 : ∃ o, rF3[0]? = some o ∧ o.dst = some 11 ∧ o.guard = none ∧ o.op = .select #[{ chan := .tmp 10, send := none, elem := 42 }] true := ⟨_, rfl, rfl, rfl, rfl⟩
theorem oF31 : ∃ o, rF3[1]? = some o ∧ o.dst = some 12 ∧ o.guard = none ∧ o.op = .extract (.tmp 11) 0 := ⟨_, rfl, rfl, rfl, rfl⟩
theorem oF32 : ∃ o, rF3[2]? = some o ∧ o.dst = some 13 ∧ o.guard = none ∧ o.op = .binOp .eql 3 (.tmp 12) (.const (.int .i64 0)) 3 := ⟨_, rfl, rfl, rfl, rfl⟩
theorem szF4 : rF4.size = 5 := by rfl
theorem oF40 : ∃ o, rF4[0]? = some o ∧ o.dst = some 14 ∧ o.guard = none ∧ o.op = .extract (.tmp 11) 2 := ⟨_, rfl, rfl, rfl, rfl⟩
theorem oF41 : ∃ o, rF4[1]? = some o ∧ o.dst = some 15 ∧ o.guard = none ∧ o.op = .extract (.tmp 11) 1 := ⟨_, rfl, rfl, rfl, rfl⟩
theorem oF42 : ∃ o, rF4[2]? = some o ∧ o.dst = some 5 ∧ o.guard = none ∧ o.op = .alloc 42 := ⟨_, rfl, rfl, rfl, rfl⟩
theorem oF43 : ∃ o, rF4[3]? = some o ∧ o.dst = none ∧ o.guard = none ∧ o.op = .store 42 (.tmp 5) (.tmp 14) := ⟨_, rfl, rfl, rfl, rfl⟩
theorem oF44 : ∃ o, rF4[4]? = some o ∧ o.dst = some 6 ∧ o.guard = none ∧ o.op = .assign (.tmp 15) := ⟨_, rfl, rfl, rfl, rfl⟩
theorem szF5 : rF5.size = 2 := by rfl
theorem oF50 : ∃ o, rF5[0]? = some o ∧ o.dst = some 16 ∧ o.guard = none ∧ o.op = .move (.tmp 6) := ⟨_, rfl, rfl, rfl, rfl⟩
theorem oF51 : ∃ o, rF5[1]? = some o ∧ o.dst = some 17 ∧ o.guard = none ∧ o.op = .unOp .not 4 (.tmp 16) := ⟨_, rfl, rfl, rfl, rfl⟩
theorem szF6 : rF6.size = 3 := by rfl
theorem oF60 : ∃ o, rF6[0]? = some o ∧ o.dst = some 18 ∧ o.guard = none ∧ o.op = .move (.tmp 1) := ⟨_, rfl, rfl, rfl, rfl⟩
theorem oF61 : ∃ o, rF6[1]? = some o ∧ o.dst = some 19 ∧ o.guard = none ∧ o.op = .load 42 (.tmp 5) := ⟨_, rfl, rfl, rfl, rfl⟩
theorem oF62 : ∃ o, rF6[2]? = some o ∧ o.dst = some 20 ∧ o.guard = none ∧ o.op = .call { callee := .value (.tmp 18), args := #[.tmp 19], argTypes := #[42] } := ⟨_, rfl, rfl, rfl, rfl⟩
end Go.Proofs.Ytdjnnhdeijnhgab.Rn
