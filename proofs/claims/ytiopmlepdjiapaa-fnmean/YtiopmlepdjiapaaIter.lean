/-
  The program's iterator over what was measured: it hands on each element that is a number, in order.
-/
import Derived.RangeFuncNested
import Derived.RangeFuncBound
import Derived.RangeFuncCalls
import Derived.RangeFuncLeaves
import Derived.Shelf.Abstract
import Derived.OwnWalkIn
import Derived.TacticsInMore
import Derived.LoopNIn
import Derived.LoopIn
import Derived.Test.YtiopmlepdjiapaaMean
namespace Go.Proofs.Ytiopmlepdjiapaa
open Go.RowKit Go.Shelf Fl

attribute [local go_sem] Oper.semAt_some

theorem isnan_in (F : Fence) (n x : Nat) (h18 : F.fn 49) (hro : F.round = none) (w : World) :
    CallsIn F n Try.prog 49 #[.float .f64 x] w fun e w' => e = .returned (.bool (isN x)) ∧ w' = w := by
  refine callsIn_of_wp Try.func49 rfl h18 ?_ hro
  simp only [Try.ntmps49, List.size_toArray, List.length_cons, List.length_nil, Nat.reduceAdd, Nat.reduceSub, Array.replicate_succ, Array.replicate_zero, List.push_toArray, List.append_toArray, List.nil_append, List.cons_append]
  cases h : isN x
  · have o1 : FloatKind.f64.format.order x x = some .eq := ord_self h
    gi_wp2
    go_ret
    exact ⟨rfl, rfl⟩
  · have o1 : FloatKind.f64.format.order x x = none := ord_nan (Or.inl h)
    gi_wp2
    go_ret
    exact ⟨rfl, rfl⟩

set_option maxRecDepth 100000 in
set_option maxHeartbeats 2000000 in
theorem iter1_in (F : Fence) (n : Nat) (h17 : F.fn 48) (h18 : F.fn 49) (hro : F.round = none) (hn : 1 ≤ n) (l Bs n₀ b off cap : Nat) (xs : List Nat) (hreach : xs.length ≤ 1048576) (hb : b < n₀) (J Jx : List Nat → World → Prop)
    (hY : ∀ pre x W, J pre W → pre.length < (meas xs).length → YieldAt F (n - 1) Try.prog l #[.float .f64 x] W fun e W' =>
      (e = .returned (.bool true) ∧ J (pre ++ [x]) W' ∧ Below n₀ W W') ∨ (e = .returned (.bool false) ∧ Jx (pre ++ [x]) W'))
    (W : World) (hBs : W.cell? ⟨Bs, 0, none⟩ = some (.slice (some ⟨b, off, none⟩) xs.length cap)) (hc : ∀ j x, xs[j]? = some x → W.cell? ⟨b, off + j, none⟩ = some (.float .f64 x)) (h0 : J [] W) :
    CallsIn F n Try.prog 48 #[.func (.yield l) #[] #[], .pointer (some ⟨Bs, 0, none⟩)] W fun e W' => (∃ v, e = .returned v) ∧
      ((∃ ys, ys = meas xs ∧ J ys W') ∨ (∃ pre, pre <+: meas xs ∧ Jx pre W')) := by
  refine callsIn_of_wp Try.func48 rfl h17 ?_ hro
  simp only [Try.ntmps48, List.size_toArray, List.length_cons, List.length_nil, Nat.reduceAdd, Nat.reduceSub, Array.replicate_succ, Array.replicate_zero, List.push_toArray, List.append_toArray, List.nil_append, List.cons_append]
  gi_wp2
  gi_loopw [4, 7] (fun _ i wr => ∃ k : Nat, k ≤ xs.length ∧ i = .int .i64 k ∧ J (meas (xs.take k)) wr ∧ Below n₀ W wr)
    (fun _ i _ => xs.length - (intOf i).toNat)
  case atStart => exact ⟨0, Nat.zero_le _, rfl, h0, Below.refl _ _⟩
  case round =>
    obtain ⟨k, hk, rfl, hJs, hnx⟩ := hrel
    by_cases hlt : k < xs.length
    · obtain ⟨x, hx⟩ : ∃ x, xs[k]? = some x := ⟨_, List.getElem?_eq_getElem hlt⟩
      have hcx : wr.cell? ⟨b, off + k, none⟩ = some (.float .f64 x) := (hnx.cell (p := ⟨b, off + k, none⟩) hb).trans (hc k x hx)
      have T : Hid (xs.take (k + 1) = xs.take k ++ [x]) := take_snoc _ _ _ hx
      have HX : Hid (xs[k]? = some x) := hx
      clear hx hc
      cases hN : isN x
      · have hpl : (meas (xs.take k)).length < (meas xs).length := by
          have e1 : meas (xs.take (k + 1)) = meas (xs.take k) ++ [x] := by rw [T.out, meas_snoc, if_neg (by rw [hN]; decide)]
          have e2 : (meas (xs.take (k + 1))).length ≤ (meas xs).length := ((List.take_sublist (k + 1) xs).filter _).length_le
          rw [e1] at e2
          simp at e2
          omega
        obtain ⟨fn, tmps, assign, body, hy, hR⟩ := hY _ x wr hJs hpl
        gi_wp2_with (gi_at_call 49; refine (isnan_in F (n - 1) _ h18 hro _).mono ?_; rintro e w' ⟨rfl, hw'⟩; have hw2 := hw'.symm; clear hw'; subst hw2)
        have e1 : meas (xs.take (k + 1)) = meas (xs.take k) ++ [x] := by rw [T.out, meas_snoc, if_neg (by rw [hN]; decide)]
        refine hR.mono ?_
        rintro e W3 (⟨rfl, hJ3, hk3⟩ | ⟨rfl, hJx3⟩)
        · have E1 : Hid (meas (xs.take (k + 1)) = meas (xs.take k) ++ [x]) := e1
          clear e1
          gi_wp2
          go_roundw
          case rel => exact ⟨k + 1, by omega, by simp, by rw [E1.out]; exact hJ3, hnx.trans hk3⟩
          case measure => simp [intOf]; omega
        · have E1 : Hid (meas (xs.take (k + 1)) = meas (xs.take k) ++ [x]) := e1
          clear e1
          gi_wp2
          refine bodyPost_ret (results_none rfl _ _ _) rfl ?_
          refine ⟨⟨_, rfl⟩, .inr ⟨meas (xs.take k) ++ [x], ?_, hJx3⟩⟩
          rw [← E1.out]
          exact (List.take_prefix (k + 1) xs).filter _
      · gi_wp2_with (gi_at_call 49; refine (isnan_in F (n - 1) _ h18 hro _).mono ?_; rintro e w' ⟨rfl, hw'⟩; have hw2 := hw'.symm; clear hw'; subst hw2)
        have e1 : meas (xs.take (k + 1)) = meas (xs.take k) := by rw [T.out, meas_snoc, if_pos hN]
        have E1 : Hid (meas (xs.take (k + 1)) = meas (xs.take k)) := e1
        clear e1
        try (refine ⟨fun _ h => (by cases h), ?_⟩; gi_wp2)
        go_roundw
        case rel => exact ⟨k + 1, by omega, by simp, by rw [E1.out]; exact hJs, hnx⟩
        case measure => simp [intOf]; omega
    · obtain rfl : k = xs.length := by omega
      gi_wp2
      go_end0
      exact ⟨⟨_, rfl⟩, .inl ⟨_, rfl, by rw [List.take_length] at hJs; exact hJs⟩⟩

set_option maxRecDepth 100000 in
set_option maxHeartbeats 1000000 in
theorem iter1_nil_in (F : Fence) (n : Nat) (h17 : F.fn 48) (hro : F.round = none) (l Bs cap : Nat) (ao : Option Addr) (J : List Nat → World → Prop) (W : World) (hBs : W.cell? ⟨Bs, 0, none⟩ = some (.slice ao 0 cap)) (h0 : J [] W) :
    CallsIn F n Try.prog 48 #[.func (.yield l) #[] #[], .pointer (some ⟨Bs, 0, none⟩)] W fun e W' => (∃ v, e = .returned v) ∧ J [] W' := by
  refine callsIn_of_wp Try.func48 rfl h17 ?_ hro
  simp only [Try.ntmps48, List.size_toArray, List.length_cons, List.length_nil, Nat.reduceAdd, Nat.reduceSub, Array.replicate_succ, Array.replicate_zero, List.push_toArray, List.append_toArray, List.nil_append, List.cons_append]
  gi_wp2
  gi_loopw [4, 7] (fun _ i wr => i = .int .i64 0 ∧ J [] wr) (fun _ _ _ => 0)
  case atStart => exact ⟨rfl, h0⟩
  case round =>
    obtain ⟨rfl, hJs⟩ := hrel
    gi_wp2
    go_end0
    exact ⟨⟨_, rfl⟩, hJs⟩

set_option maxHeartbeats 1000000 in
theorem measured_in (F : Fence) (n : Nat) (h14 : F.fn 37) (hro : F.round = none) (a : Option Addr) (len cap : Nat) (w : World) :
    CallsIn F n Try.prog 37 #[.slice a len cap] w fun e w' => e = .returned (.func (.func 48) #[] #[.pointer (some ⟨w.heap.size, 0, none⟩)]) ∧ w' = w.alloc (.cells #[.slice a len cap] 35) := by
  refine callsIn_of_wp Try.func37 rfl h14 ?_ hro
  simp only [Try.ntmps37, List.size_toArray, List.length_cons, List.length_nil, Nat.reduceAdd, Nat.reduceSub, Array.replicate_succ, Array.replicate_zero, List.push_toArray, List.append_toArray, List.nil_append, List.cons_append]
  gi_wp2
  go_ret
  exact ⟨rfl, rfl⟩

theorem iter_stops (F : Fence) (n : Nat) (h17 : F.fn 48) (h18 : F.fn 49) (hro : F.round = none) (hn : 1 ≤ n) (Bs n₀ : Nat) (sv : Value) (xs : List Nat) (hreach : xs.length ≤ 1048576) (w : World) (hBs : Bs < w.heap.size) (hn₀ : n₀ ≤ w.heap.size)
    (hc : w.cell? ⟨Bs, 0, none⟩ = some sv) (w0 : World) (hw0 : w0.heap.size = n₀) (hB0 : Below n₀ w0 w) (hI : Row w0 sv xs.length (xs.map fl)) :
    SeqStopsK F n Try.prog 48 #[.pointer (some ⟨Bs, 0, none⟩)] (fun x : Nat => #[Value.float .f64 x]) (Below n₀) (fun ys => ys = meas xs) (fun pre => pre <+: meas xs) (meas xs).length w := fun l J Jx W hW _ _ hY h0 => by
  have hc' := (hW.cell (p := ⟨Bs, 0, none⟩) hBs).trans hc
  have hb1 : Below n₀ w0 W := hB0.trans (hW.mono hn₀)
  obtain ⟨_, ao, cap, rfl, hrow⟩ := hI
  rcases hrow with h | ⟨b, off, rfl, hb, hcs⟩
  · have hx : xs = [] := List.eq_nil_of_length_eq_zero h
    subst hx
    exact (iter1_nil_in F n h17 hro l Bs cap ao J W hc' h0).mono fun e W' ⟨he, hj⟩ => ⟨he, .inl ⟨_, rfl, hj⟩⟩
  · refine iter1_in F n h17 h18 hro hn l Bs n₀ b off cap xs hreach (by omega) J Jx hY W hc' ?_ h0
    intro j x hx
    have hj := (List.getElem?_eq_some_iff.1 hx).1
    rw [hb1.cell (p := ⟨b, off + j, none⟩) (by show b < n₀; omega), hcs j hj, List.getElem?_map, hx]
    rfl
end Go.Proofs.Ytiopmlepdjiapaa
