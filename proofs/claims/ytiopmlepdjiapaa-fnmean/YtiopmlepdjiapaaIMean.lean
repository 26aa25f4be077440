/-
  MeanOf, of the program: by worth.
-/
import Derived.Test.YtiopmlepdjiapaaIter
namespace Go.Proofs.Ytiopmlepdjiapaa
open Go.RowKit Go.Shelf Fl

attribute [local go_sem] Oper.semAt_some run_store_fl

theorem frombits (w : World) : (callFunc 47 #[.int .u64 9221120237041090561]).run Try.prog w = .ok (.value (.float .f64 9221120237041090561)) w := by kernel_rfl

set_option maxHeartbeats 1000000 in
theorem nanc_in (F : Fence) (n : Nat) (h13 : F.fn 36) (h16 : F.fn 47) (hro : F.round = none) (w : World) :
    CallsIn F n Try.prog 36 #[] w fun e w' => e = .returned (.float .f64 9221120237041090561) ∧ w' = w := by
  refine callsIn_of_wp Try.func36 rfl h13 ?_ hro
  have hfb := frombits
  simp only [Try.ntmps36, List.size_toArray, List.length_nil, Nat.reduceSub, Array.replicate_succ, Array.replicate_zero, List.push_toArray, List.append_toArray, List.nil_append, List.cons_append]
  gi_wp2
  go_ret
  exact ⟨rfl, rfl⟩

/-- The sum of whatever comes. -/
def sumC (ms : List Nat) : Option Nat := ms.foldl (fun a x => fop .add a (cls x)) (some 0)
theorem sumC_snoc (ms : List Nat) (x : Nat) : sumC (ms ++ [x]) = fop .add (sumC ms) (cls x) := by simp [sumC, List.foldl_append]
theorem sumC_meas (xs : List Nat) : sumC (meas xs) = sumW (meas xs) := by
  unfold sumC sumW
  generalize some 0 = z
  have h : ∀ x ∈ meas xs, isN x = false := by
    intro x hx
    unfold meas at hx
    have := (List.mem_filter.1 hx).2
    simpa using this
  revert h z
  induction meas xs with
  | nil => intro _ _; rfl
  | cons x l ih =>
    intro z h
    simp only [List.foldl_cons]
    rw [cls_low (h x (by simp))]
    exact ih _ (fun y hy => h y (by simp [hy]))

set_option maxRecDepth 100000 in
set_option maxHeartbeats 2000000 in
theorem imean_in (F : Fence) (n : Nat) (hF : ∀ f, F.fn f) (hro : F.round = none) (hn : 3 ≤ n) (sv : Value) (xs : List Nat) (w : World) (hI : Row w sv xs.length (xs.map fl)) (hs : xs.length ≤ 4096) :
    CallsIn F n Try.prog 15 #[sv] w fun e W' => ∃ y, e = .returned (.float .f64 y) ∧ cls y = meanW xs ∧ Below w.heap.size w W' := by
  obtain ⟨a, cap, hv0⟩ : ∃ a cap, sv = .slice a xs.length cap := by obtain ⟨_, ao, cap, h, _⟩ := hI; exact ⟨ao, cap, h⟩
  subst hv0
  have h1 : 1 ≤ n := by omega
  have hadd := run_fadd
  have hquo := run_fquo
  have hbi : ¬ (4096 : Int) < (xs.length : Int) := by omega
  refine callsIn_of_wp_marks Try.func15 rfl (hF 15) ?_ hro
  simp only [Try.ntmps15, List.size_toArray, List.length_cons, List.length_nil, Nat.reduceAdd, Nat.reduceSub, Array.replicate_succ, Array.replicate_zero, List.push_toArray, List.append_toArray, List.nil_append, List.cons_append]
  gi_wp2_with (gi_at_call 37; refine (measured_in F (n - 1) (hF 37) hro _ _ _ _).mono ?_; rintro e w' ⟨rfl, rfl⟩)
  have bS := Boxed.new w 37 (.float .f64 0)
  have bC := Boxed.new (w.alloc (.cells #[.float .f64 0] 37)) 3 (.int .i64 0)
  have bN := Boxed.new ((w.alloc (.cells #[.float .f64 0] 37)).alloc (.cells #[.int .i64 0] 3)) 35 (.slice a xs.length cap)
  simp only [World.size_alloc] at bC bN
  have hB0 : Below w.heap.size w (((w.alloc (.cells #[.float .f64 0] 37)).alloc (.cells #[.int .i64 0] 3)).alloc (.cells #[.slice a xs.length cap] 35)) := (((Below.refl _ w).alloc (Nat.le_refl _) _).alloc (by simp) _).alloc (by simp; omega) _
  refine wpIn_rangeFunc_ownG hro h1 (gf := 48) (lb := #[.pointer (some ⟨w.heap.size + 1 + 1, 0, none⟩)]) rfl (hF 48) (enters_of Try.func48 (by kernel_rfl) rfl)
    (iter_stops F (n - 1) (hF 48) (hF 49) hro (by omega) (w.heap.size + 1 + 1) w.heap.size _ xs (by omega) _ (by simp) (by simp; omega) bN.cell w rfl hB0 hI) belowK_t (belowK_b (by simp; omega)) (Below.refl _ _) (fun _ => rfl)
    (fun pre W => ((∃ s, W.cell? ⟨w.heap.size, 0, none⟩ = some (.float .f64 s) ∧ cls s = sumC pre) ∧ W.frozen? ⟨w.heap.size, 0, none⟩ = false ∧ W.cell? ⟨w.heap.size + 1, 0, none⟩ = some (.int .i64 (pre.length : Int)) ∧ W.frozen? ⟨w.heap.size + 1, 0, none⟩ = false) ∧ Below w.heap.size w W)
    (fun _ _ _ => False)
    (OwnFrom.and (Own.from (fun s A B row hs hg hr => by
      obtain ⟨⟨t, h1, h2⟩, h3, h4, h5⟩ := hs
      exact ⟨⟨t, cell_kept h1 hg hr, h2⟩, (frozen_kept h1 hg hr).trans h3, cell_kept h4 hg hr, (frozen_kept h4 hg hr).trans h5⟩) _) (ownFrom_below (Nat.le_refl _) (by simp; omega)))
    (fun _ _ _ _ _ hs _ _ => hs)
    ⟨⟨⟨0, ((bS.alloc _).alloc _).cell, cls_low low_zero⟩, ((bS.alloc _).alloc _).frozen, (bC.alloc _).cell, (bC.alloc _).frozen⟩, hB0⟩
    (fun x => { tmps := #[.slice a xs.length cap, undef, .float .f64 0, .pointer (some ⟨w.heap.size, 0, none⟩), .pointer (some ⟨w.heap.size + 1, 0, none⟩), .float .f64 x, .slice a xs.length cap, .int .i64 xs.length, .bool false, undef, .slice a xs.length cap, .func (.func 48) #[] #[.pointer (some ⟨w.heap.size + 1 + 1, 0, none⟩)], .float .f64 x, undef, undef, undef, undef, undef, undef, undef, undef, undef, undef, undef, undef], defers := [] }) ?assign ?body ?done ?stop
  case assign =>
    intro l x W K hK
    gi_wp2
    exact hK
  case body =>
    rintro l pre x W ⟨⟨⟨t, hc, ht⟩, hf, hc2, hf2⟩, hB⟩ hlen
    have hp : (pre.length : Int) ≤ 4096 := by have := meas_le xs; omega
    have HT : Hid (cls t = sumC pre) := ht
    clear ht
    gi_wp2
    have k1 : KeepsOthers W ((W.drewN (fN .add t x)).setCell ⟨w.heap.size, 0, none⟩ (.float .f64 (fRes .add t x W))) := ⟨(KeepsOthers.setCell (W.drewN (fN .add t x)) _ _).size, (KeepsOthers.setCell (W.drewN (fN .add t x)) _ _).same⟩
    have bw : ∀ B, B ≤ w.heap.size → Below B W (((W.drewN (fN .add t x)).setCell ⟨w.heap.size, 0, none⟩ (.float .f64 (fRes .add t x W))).setCell ⟨w.heap.size + 1, 0, none⟩ (.int .i64 ((pre.length : Int) + 1))) := fun B hB' =>
      ((below_drewN (Below.refl B W) _).setCell (p := ⟨w.heap.size, 0, none⟩) hB' _).setCell (p := ⟨w.heap.size + 1, 0, none⟩) (by show B ≤ w.heap.size + 1; omega) _
    refine ⟨(k1.trans (KeepsOthers.setCell _ _ _)).from _, bw _ (Nat.le_refl _), ⟨⟨fRes .add t x W, ?_, ?_⟩, ?_, ?_, ?_⟩, hB.trans (bw _ (Nat.le_refl _))⟩
    · simp [go_sem, hc]
    · rw [cls_fRes, HT.out, sumC_snoc]
    · simp [go_sem, hf]
    · simp [go_sem, hc2]
    · simp [go_sem, hf2]
  case done =>
    rintro D ys W hD rfl ⟨⟨⟨t, hc, ht⟩, hf, hc2, hf2⟩, hB⟩ hK
    have hle := meas_le xs
    have HT : Hid (cls t = sumW (meas xs)) := ht.trans (sumC_meas xs)
    clear ht
    by_cases h0 : (meas xs).length = 0
    · have HW : Hid (meanW xs = none) := by unfold Hid meanW; rw [if_neg (by omega), if_pos h0]
      have hz : (((meas xs).length : Int) == 0) = true := by rw [beq_iff_eq]; omega
      gi_wp2_with (gi_at_call 36; refine (nanc_in F (n - 1) (hF 36) (hF 47) hro _).mono ?_; rintro e w' ⟨rfl, hw'⟩; have hw2 := hw'.symm; clear hw'; subst hw2)
      refine ⟨by simp, .inl ⟨_, _, rfl, run_takeDeferred hK, ?_⟩⟩
      exact ⟨_, results_tmp rfl _ _ _, _, rfl, by rw [HW.out]; simp [cls, nan_c], hB.trans (belowK_b (w := w) (Nat.le_refl _) W D _ _ (by simp at hD; omega) hK rfl rfl)⟩
    · have HW : Hid (meanW xs = fop .quo (sumW (meas xs)) (some (floatOfInt .f64 (((meas xs).length : Nat) : Int)))) := by unfold Hid meanW; rw [if_neg (by omega), if_neg h0]
      have hz : (((meas xs).length : Int) == 0) = false := by rw [beq_eq_false_iff_ne]; omega
      gi_wp2
      have hK' : (W.drewN (fN .quo t (floatOfInt .f64 ((meas xs).length : Int)))).heap[D]? = some (.deferred (some [])) := hK
      refine ⟨by simp, .inl ⟨_, _, rfl, run_takeDeferred hK', ?_⟩⟩
      exact ⟨_, results_tmp rfl _ _ _, _, rfl, by rw [HW.out, cls_fRes, HT.out, cls_low (ofInt_low _)], (below_drewN hB _).trans (belowK_b (w := w) (Nat.le_refl _) _ D _ _ (by simp at hD; omega) hK' rfl rfl)⟩
  case stop =>
    rintro D c pre W _ _ h _
    exact h.elim
end Go.Proofs.Ytiopmlepdjiapaa
