/-
  Proved: for every list of numbers, the program's MeanOf answers as the specification's (a nought's sign too, all NaNs one) and writes into no argument (FnExactMeanOf returns true). No conditions.
-/
import Derived.Test.YtiopmlepdjiapakIMean
import Derived.ProofKit
import Derived.OpenShut
import Derived.ShutString
import Derived.ChangeOld
import Derived.Below
import Derived.Deep.Slices
namespace Go.Proofs.Ytiopmlepdjiapak
open Go.RowKit Fl

theorem nanc_any (w : World) : Calls Try.prog 13 #[] w fun e w' => e = .returned (.float .f64 9221120237041090561) ∧ w' = w :=
  (callsIn_wide (n := 3)).1 (nanc_in Fence.wide 3 trivial trivial rfl w)

set_option maxHeartbeats 1000000 in
theorem imean_any (v : Value) (n : Nat) (xs : List Nat) (w : World) (ha : Row w v n (xs.map fl)) (hn : n ≤ 1048576) :
    Calls Try.prog 7 #[v] w fun e w' => ∃ y, e = .returned (.float .f64 y) ∧ cls y = meanW xs ∧ Below w.heap.size w w' := by
  have hl : xs.length = n := by have := ha.1; simpa using this
  by_cases h : n ≤ 4096
  · rw [← hl] at ha
    exact (callsIn_wide (n := 3)).1 (imean_in Fence.wide 3 (fun _ => trivial) rfl (by omega) v xs w ha (by omega))
  · obtain ⟨_, ao, cap, rfl, hrow⟩ := ha
    clear hrow
    have hbi : (4096 : Int) < (n : Int) := by omega
    have HW : Hid (meanW xs = none) := by unfold Hid meanW; rw [if_pos (by omega)]
    go_enter Try.func7, Try.ntmps7
    go_wp2_with (go_at_call 13; refine (nanc_any _).mono ?_; rintro e w' ⟨rfl, hw'⟩; have hw2 := hw'.symm; clear hw'; subst hw2)
    go_ret
    exact ⟨_, rfl, by rw [HW.out]; simp [cls, nan_c], Below.refl _ _⟩

theorem onto {w W w2 : World} (hv : Below w.heap.size w W) (h : Below W.heap.size W w2) : Below w.heap.size w w2 := hv.trans (h.mono hv.size)


/-- A slice of floats that came in, read: its elements. -/
theorem row_of_read {H : Type} {enc : TypeId × Value → H} {P : Program} {W : World} {sp : Nat → Bool} {hd : Bool} {t e : TypeId} {ao : Option Addr} {len cap : Nat} {d : DataW H} {p : List MemPlace}
    (ht : P.underlying t = some (.slice e)) (he : P.underlying e = some (.float .f64)) (hc : P.cellsOf e = 1) (h : DataW.Trod enc P W 0 sp hd t (.slice ao len cap) d p) :
    ∃ xs : List Nat, Row W (.slice ao len cap) len (xs.map fl) := by
  obtain ⟨fuel, hf⟩ := h
  rcases Deep.open_slice1 ht hc hf with ⟨h1, _⟩ | ⟨a, l, c, m, n, V, D, Pl, h1, _, hl, _, hm, _, hx⟩
  · simp [Value.cells] at h1
    obtain ⟨rfl, rfl, rfl⟩ := h1
    exact ⟨[], rfl, none, 0, rfl, Or.inl rfl⟩
  · simp [Value.cells] at h1
    obtain ⟨rfl, rfl, rfl⟩ := h1
    have hle : len ≤ m := by rw [hm]; split <;> omega
    have hV : ∀ i, i < len → ∃ x, V i = fl x := by
      intro i hi
      obtain ⟨_, h2⟩ := hx i (by omega)
      cases n with
      | zero => simp [DataW.trod] at h2
      | succ n =>
        simp only [DataW.trod, he] at h2
        cases hv : V i with
        | float k b =>
          rw [hv] at h2
          by_cases q : k = .f64
          · exact ⟨b, by rw [q]⟩
          · simp [q] at h2
        | _ => rw [hv] at h2; simp at h2
    refine ⟨(List.range len).map (fun i => match V i with | .float _ b => b | _ => 0), by simp, some a, cap, rfl, ?_⟩
    by_cases h0 : len = 0
    · exact Or.inl h0
    · obtain ⟨b, off, spot⟩ := a
      have hs := (hx 0 (by omega)).1
      have hspot : spot = none := by simpa [Addr.add] using World.cell?_spot hs
      subst hspot
      refine Or.inr ⟨b, off, rfl, World.block_lt_of_cell? W _ (by simpa [Addr.add] using hs), ?_⟩
      intro i hi
      have h2 := (hx i (by omega)).1
      obtain ⟨x, hxv⟩ := hV i hi
      rw [hxv] at h2
      have h3 : W.cell? ⟨b, off + i, none⟩ = some (fl x) := by
        by_cases q : i = 0
        · subst q; simpa [Addr.add] using h2
        · simpa [Addr.add, q] using h2
      rw [h3]
      simp [hi, hxv]

namespace fnExactMeanOf
open Go.ChangeShapes Go.WideShapes Go.ChangeAt
set_option linter.unusedVariables false

theorem own : ownKnob Try.prog.godebug = none := by kernel_rfl
theorem laidOut : laidOutB Try.prog = true := by kernel_rfl

set_option maxHeartbeats 4000000 in
theorem walk (v : Value) (n : Nat) (xs : List Nat) (w : World) (hv : Row w v n (xs.map fl)) :
    Calls Try.prog 3 #[v] w fun e w' => e = .returned (.bool true) ∧ Below w.heap.size w w' := by
  obtain ⟨ao, cap, hv0⟩ : ∃ ao cap, v = .slice ao n cap := by obtain ⟨_, ao, cap, h, _⟩ := hv; exact ⟨ao, cap, h⟩
  subst hv0
  by_cases hbig : (1048576 : Int) < (n : Int)
  · clear hv
    go_enter Try.func3, Try.ntmps3
    go_wp2
    go_ret
    exact ⟨rfl, Below.refl _ _⟩
  have hn : n ≤ 1048576 := by omega
  go_enter Try.func3, Try.ntmps3
  go_wp2_with fail
  refine (tofs_any _ n xs _ hv hn).mono ?_
  rintro e w1 ⟨g1, rfl, hg1, ho1, b1⟩
  go_wp2_with fail
  refine (smean_any _ n xs _ (Row.of_owns ho1) hn).mono ?_
  rintro e w2 ⟨y2, m2, rfl, hc2, hw2⟩
  have b2 : Below w.heap.size w w2 := by rw [hw2]; exact below_drewN b1 _
  clear hw2
  have HC2 : Hid (cls y2 = meanW xs) := hc2
  clear hc2
  go_wp2_with fail
  refine (tofs_any _ n xs _ (hv.below b2) hn).mono ?_
  rintro e w3 ⟨g3, rfl, hg3, ho3, hb3⟩
  have b3 := onto b2 hb3
  go_wp2_with fail
  refine (imean_any _ n xs _ (Row.of_owns ho3) hn).mono ?_
  rintro e w4 ⟨y4, rfl, hc4, hb4⟩
  have b4 := onto b3 hb4
  have HC4 : Hid (cls y4 = meanW xs) := hc4
  clear hc4
  go_wp2_with fail
  refine (same_any _ _ _ (HC4.out.trans HC2.out.symm)).mono ?_
  rintro e w5 ⟨rfl, m5, hw5⟩
  have hb5 : Below w4.heap.size w4 w5 := by rw [hw5]; exact below_drewN (Below.refl _ _) _
  clear hw5
  have b5 := onto b4 hb5
  go_wp2_with fail
  refine (tofs_any _ n xs _ (hv.below b5) hn).mono ?_
  rintro e w6 ⟨g6, rfl, hg6, ho6, hb6⟩
  have b6 := onto b5 hb6
  have d6 := onto (onto hb4 hb5) hb6
  go_wp2_with fail
  refine (eqfs_any _ _ n xs xs _ ((Row.of_owns ho3).below d6) (Row.of_owns ho6) hn rfl).mono ?_
  rintro e w7 ⟨rfl, m7, hw7⟩
  have b7 : Below w.heap.size w w7 := by rw [hw7]; exact below_drewN b6 _
  clear hw7
  go_wp2
  go_ret
  exact ⟨rfl, b7⟩

set_option maxRecDepth 100000 in
theorem lifted (os : Os) (started : os.Started) (H : Type) (enc : TypeId × Value → H) :
    ReturnsInHanded {} Try.checked os 3 .any (Rows.fnExactMeanOfSpec.pre6 enc Try.prog Try.f3 Rows.fnExactMeanOfRow.domain false) (Rows.fnExactMeanOfSpec.post enc Try.prog Try.f3 false true false false) := by
  refine returnsInHanded_of_change (C := Try.checked) own started (by kernel_rfl) Try.func3
    (ChangeSpec.witness6 (enc := enc) (C := Try.checked) false ⟨#[], #[.slice none 0 0], []⟩ 8 (by kernel_rfl) (by kernel_rfl) (by kernel_rfl) (by kernel_rfl)) ?_
  intro W base args ds gs before hval0 hW hcnd _
  have hval : ∀ (j : Nat) t v, Try.f3.params[j]? = some t → args[j]? = some v → Value.okWide Try.prog W .any base t v := hval0
  have hW' := hW
  obtain ⟨p, q, hA0, hV, rfl, hfz, hnd⟩ := hW
  have hA : DataW.TrodAll enc Try.prog W 0 (fun _ => true) true Try.f3.params.toList args.toList ds p := hA0
  rw [Try.params3] at hA hval
  obtain ⟨v0, vs0, d0, ds0, p0, q0, hargs, rfl, rfl, h0, r0⟩ := trodAll_cons hA
  obtain ⟨rfl, rfl, rfl⟩ := trodAll_nil r0
  obtain rfl : args = #[v0] := by cases args; simp_all
  obtain ⟨rfl, rfl⟩ := trodVars_none hV
  obtain ⟨ao, len, cap, rfl⟩ := okWide_slice Try.underlying22 (hval 0 22 v0 rfl rfl)
  have k0 := h0
  have lt0 : ∀ x ∈ p0, x.block < W.heap.size := by obtain ⟨m, hm⟩ := k0; exact DataW.trod_lt m _ _ _ hm
  obtain ⟨xs, hrow⟩ := row_of_read Try.underlying22 Try.underlying23 (by kernel_rfl) h0
  clear hA0 hval0
  refine (walk _ len xs W hrow).mono fun e W' ⟨he, bel⟩ => ?_
  subst he
  exact ⟨_, rfl, _, _, _, [], _, [], hW', trodAll_mk1 (shut_bool Try.underlying4 _), (trodAll_cons_mk (Below.trod laidOut (by kernel_rfl) (of_decide_eq_true (by kernel_rfl)) k0 bel lt0) trodAll_mk0), rfl, bel.frame _, fun h => by cases h⟩

theorem over : Rows.fnExactMeanOfRow.holds Try.pinned (OpenSpec.ofChange Rows.fnExactMeanOfSpec) :=
  OpenClaim.holds_of_wide 3 Try.f3 rfl rfl rfl rfl rfl rfl rfl ⟨rfl, rfl, rfl, rfl, rfl⟩ rfl rfl rfl rfl rfl (by kernel_rfl) Try.func3 (by kernel_rfl)
    (of_decide_eq_true (by kernel_rfl)) (by unfold Func.isWrapper; first | (rw [if_pos (by decide +kernel)]; kernel_rfl) | (rw [if_neg (by decide +kernel)]; exact ⟨rfl, rfl⟩))
    (fun os started H enc _ => lifted os started H enc)
end fnExactMeanOf
theorem fnExactMeanOf_holds : Rows.FnExactMeanOfSaid := fnExactMeanOf.over
end Go.Proofs.Ytiopmlepdjiapak
