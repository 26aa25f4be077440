/-
  Proved: for every start, rate and list of doses, the program's Fade answers as the specification's (a nought's sign too, all NaNs one), writes into no argument, and its answer owns its memory (FnExactFade returns true). No conditions.
-/
import Derived.Test.YtiopmlepdjiapajFade3
import Derived.ProofKit
import Derived.OpenShut
import Derived.ShutString
import Derived.ChangeOld
import Derived.Below
import Derived.Deep.Slices
namespace Go.Proofs.Ytiopmlepdjiapaj
open Go.RowKit Fl

/-- The list that Fade tells, by worth. -/
def want (s r : Nat) (xs : List Nat) : List (Option Nat) := if xs.length ≤ 4096 then fadeL (cls r) (cls s) (xs.map cls) else []

theorem fade_res {w w' : World} {s r n y : Nat} {xs : List Nat} {v' : Value} (hl : xs.length = n) (hn : n ≤ 4096) (h : FadeAt w w.heap.size s r xs n v' y w') :
    ∃ ys : List Nat, w'.ownsRow w.heap.size 37 1 v' ys.length (ys.map fl) ∧ ys.map cls = want s r xs ∧ Below w.heap.size w w' := by
  obtain ⟨ys, h1, h2, _, h4⟩ := h
  have e : ys.length = n := by have := h1.1; simpa using this
  refine ⟨ys, by rw [e]; exact h1, ?_, h4⟩
  unfold want
  rw [if_pos (by omega), h2, List.take_of_length_le (by simp; omega)]

theorem sfade (s r : Nat) (v : Value) (n : Nat) (xs : List Nat) (w : World) (ha : Row w v n (xs.map fl)) (hn : n ≤ 1048576) :
    Calls Try.prog 21 #[.float .f64 s, .float .f64 r, v] w fun e w' => ∃ (v' : Value) (ys : List Nat), e = .returned v' ∧ w'.ownsRow w.heap.size 37 1 v' ys.length (ys.map fl) ∧ ys.map cls = want s r xs ∧ Below w.heap.size w w' := by
  have hl : xs.length = n := by have := ha.1; simpa using this
  by_cases h : n ≤ 4096
  · refine (sfade_any s r v n xs w ha h).mono ?_
    rintro e w' ⟨v', y, rfl, hf⟩
    obtain ⟨ys, h1, h2, h3⟩ := fade_res hl h hf
    exact ⟨v', ys, rfl, h1, h2, h3⟩
  · refine (sfade_long s r v n xs w ha hn (by omega)).mono ?_
    rintro e w' ⟨v', rfl, h1, h2⟩
    exact ⟨v', [], rfl, h1, by unfold want; rw [if_neg (by omega)]; rfl, h2⟩
theorem ifade (s r : Nat) (v : Value) (n : Nat) (xs : List Nat) (w : World) (ha : Row w v n (xs.map fl)) (hn : n ≤ 1048576) :
    Calls Try.prog 23 #[.float .f64 s, .float .f64 r, v] w fun e w' => ∃ (v' : Value) (ys : List Nat), e = .returned v' ∧ w'.ownsRow w.heap.size 37 1 v' ys.length (ys.map fl) ∧ ys.map cls = want s r xs ∧ Below w.heap.size w w' := by
  have hl : xs.length = n := by have := ha.1; simpa using this
  by_cases h : n ≤ 4096
  · refine (ifade_any s r v n xs w ha h).mono ?_
    rintro e w' ⟨v', y, rfl, hf⟩
    obtain ⟨ys, h1, h2, h3⟩ := fade_res hl h hf
    exact ⟨v', ys, rfl, h1, h2, h3⟩
  · refine (ifade_long s r v n xs w ha hn (by omega)).mono ?_
    rintro e w' ⟨v', rfl, h1, h2⟩
    exact ⟨v', [], rfl, h1, by unfold want; rw [if_neg (by omega)]; rfl, h2⟩
theorem fadeL_len (r x : Option Nat) (ds : List (Option Nat)) : (fadeL r x ds).length = ds.length := by
  induction ds generalizing x with
  | nil => rfl
  | cons a ds ih => simp [fadeL, ih]
theorem want_len (s r : Nat) (xs : List Nat) : (want s r xs).length ≤ 4096 := by
  unfold want; split
  · rw [fadeL_len]; simpa
  · simp

theorem owns_below {w w' : World} {B n : Nat} {e : TypeId} {v : Value} {xs : List Value} (h : w.ownsRow B e 1 v n xs) (hb : Below w.heap.size w w') : w'.ownsRow B e 1 v n xs := by
  refine ⟨h.1, ?_⟩
  rcases h.2 with h2 | ⟨g, cap, cu, h2, h3, h4, h5⟩
  · exact Or.inl h2
  · exact Or.inr ⟨g, cap, cu, h2, h3, (hb.block g (Array.getElem?_eq_some_iff.1 h4).1).trans h4, h5⟩
theorem apart {w w' : World} {B B' n n' : Nat} {e e' : TypeId} {v v' : Value} {xs xs' : List Value} (h : w.ownsRow B e 1 v n xs) (h' : w'.ownsRow B' e' 1 v' n' xs') (hB : w.heap.size ≤ B') : v'.ownBlock = none ∨ v'.ownBlock ≠ v.ownBlock := by
  cases q : v'.ownBlock with
  | none => exact Or.inl rfl
  | some j =>
    refine Or.inr ?_
    intro e
    have h1 := h'.lt j q
    have h2 := h.lt j e.symm
    omega
theorem onto {w W w2 : World} (hv : Below w.heap.size w W) (h : Below W.heap.size W w2) : Below w.heap.size w w2 := hv.trans (h.mono hv.size)

/-- A slice of floats that came in, read: its elements. -/
theorem row_of_read {H : Type} {enc : TypeId × Value → H} {P : Program} {W : World} {sp : Nat → Bool} {hd : Bool} {t e : TypeId} {ao : Option Addr} {len cap : Nat} {d : DataW H} {p : List MemPlace}
    (ht : P.underlying t = some (.slice e)) (he : P.underlying e = some (.float .f64)) (hc : P.cellsOf e = 1) (h : DataW.Trod enc P W 0 sp hd t (.slice ao len cap) d p) :
    ∃ xs : List Nat, Row W (.slice ao len cap) len (xs.map fl) := by
  obtain ⟨fuel, hf⟩ := h
  rcases Deep.open_slice1 ht hc hf with ⟨h1, _⟩ | ⟨a, l, c, m, n, V, D, Pl, h1, _, hl, _, hm, _, hx⟩
  · simp [Value.cells] at h1
    obtain ⟨rfl, rfl, rfl⟩ := h1
    exact ⟨[], rfl, none, 0, rfl, Or.inl rfl⟩
  · simp [Value.cells] at h1
    obtain ⟨rfl, rfl, rfl⟩ := h1
    have hle : len ≤ m := by rw [hm]; split <;> omega
    have hV : ∀ i, i < len → ∃ x, V i = fl x := by
      intro i hi
      obtain ⟨_, h2⟩ := hx i (by omega)
      cases n with
      | zero => simp [DataW.trod] at h2
      | succ n =>
        simp only [DataW.trod, he] at h2
        cases hv : V i with
        | float k b =>
          rw [hv] at h2
          by_cases q : k = .f64
          · exact ⟨b, by rw [q]⟩
          · simp [q] at h2
        | _ => rw [hv] at h2; simp at h2
    refine ⟨(List.range len).map (fun i => match V i with | .float _ b => b | _ => 0), by simp, some a, cap, rfl, ?_⟩
    by_cases h0 : len = 0
    · exact Or.inl h0
    · obtain ⟨b, off, spot⟩ := a
      have hs := (hx 0 (by omega)).1
      have hspot : spot = none := by simpa [Addr.add] using World.cell?_spot hs
      subst hspot
      refine Or.inr ⟨b, off, rfl, World.block_lt_of_cell? W _ (by simpa [Addr.add] using hs), ?_⟩
      intro i hi
      have h2 := (hx i (by omega)).1
      obtain ⟨x, hxv⟩ := hV i hi
      rw [hxv] at h2
      have h3 : W.cell? ⟨b, off + i, none⟩ = some (fl x) := by
        by_cases q : i = 0
        · subst q; simpa [Addr.add] using h2
        · simpa [Addr.add, q] using h2
      rw [h3]
      simp [hi, hxv]

namespace fnExactFade
open Go.ChangeShapes Go.WideShapes Go.ChangeAt
set_option linter.unusedVariables false

theorem own : ownKnob Try.prog.godebug = none := by kernel_rfl
theorem laidOut : laidOutB Try.prog = true := by kernel_rfl

set_option maxHeartbeats 4000000 in
theorem walk (s r : Nat) (v : Value) (n : Nat) (xs : List Nat) (w : World) (hv : Row w v n (xs.map fl)) :
    Calls Try.prog 8 #[.float .f64 s, .float .f64 r, v] w fun e w' => e = .returned (.bool true) ∧ Below w.heap.size w w' := by
  obtain ⟨ao, cap, hv0⟩ : ∃ ao cap, v = .slice ao n cap := by obtain ⟨_, ao, cap, h, _⟩ := hv; exact ⟨ao, cap, h⟩
  subst hv0
  by_cases hbig : (1048576 : Int) < (n : Int)
  · clear hv
    go_enter Try.func8, Try.ntmps8
    go_wp2
    go_ret
    exact ⟨rfl, Below.refl _ _⟩
  have hn : n ≤ 1048576 := by omega
  go_enter Try.func8, Try.ntmps8
  go_wp2_with fail
  refine (tofs_any _ n xs _ hv hn).mono ?_
  rintro e w1 ⟨g1, rfl, hg1, ho1, b1⟩
  go_wp2_with fail
  refine (sfade s r _ n xs _ (Row.of_owns ho1) hn).mono ?_
  rintro e w2 ⟨v0, ys0, rfl, ho2, hc2, hb2⟩
  have b2 := onto b1 hb2
  go_wp2_with fail
  refine (tofs_any _ n xs _ (hv.below b2) hn).mono ?_
  rintro e w3 ⟨g3, rfl, hg3, ho3, hb3⟩
  have b3 := onto b2 hb3
  go_wp2_with fail
  refine (ifade s r _ n xs _ (Row.of_owns ho3) hn).mono ?_
  rintro e w4 ⟨v4, ys4, rfl, ho4, hc4, hb4⟩
  have b4 := onto b3 hb4
  have c4 := onto hb3 hb4
  have hlen : ys4.length = ys0.length := by have := congrArg List.length (hc4.trans hc2.symm); simpa using this
  have hlw : ys4.length ≤ 4096 := by have := want_len s r xs; rw [← hc4] at this; simpa using this
  have hcc : ys4.map cls = ys0.map cls := hc4.trans hc2.symm
  have HC : Hid (ys4.map cls = ys0.map cls) := hcc
  have HL : Hid (ys4.length = ys0.length) := hlen
  have HW : Hid (ys0.map cls = want s r xs) := hc2
  clear hcc hc2 hc4 hlen
  have R0 := Row.of_owns ho2
  rw [← HL.out] at R0
  go_wp2_with fail
  refine (eqfs_any _ _ ys4.length ys4 ys0 _ (Row.of_owns ho4) (R0.below c4) (by omega) HC.out).mono ?_
  rintro e w5 ⟨rfl, m5, hw5⟩
  have hb5 : Below w4.heap.size w4 w5 := by rw [hw5]; exact below_drewN (Below.refl _ _) _
  clear hw5
  have b5 := onto b4 hb5
  have c5 := onto c4 hb5
  go_wp2_with fail
  refine (tofs_any _ n xs _ (hv.below b5) hn).mono ?_
  rintro e w6 ⟨g6, rfl, hg6, ho6, hb6⟩
  have b6 := onto b5 hb6
  have c6 := onto c5 hb6
  have d6 := onto (onto hb4 hb5) hb6
  have e6 := onto hb5 hb6
  go_wp2_with fail
  refine (eqfs_any _ _ n xs xs _ ((Row.of_owns ho3).below d6) (Row.of_owns ho6) hn rfl).mono ?_
  rintro e w7 ⟨rfl, m7, hw7⟩
  have hb7 : Below w6.heap.size w6 w7 := by rw [hw7]; exact below_drewN (Below.refl _ _) _
  clear hw7
  have b7 := onto b6 hb7
  have c7 := onto c6 hb7
  have d7 := onto d6 hb7
  have e7 := onto e6 hb7
  have o3 := owns_below ho3 d7
  have o4 := owns_below ho4 e7
  go_wp2_with fail
  refine (mark_any w2.heap.size _ n _ _ o3 hn).mono ?_
  rintro e w8 ⟨rfl, ho8, hon8⟩
  have hx : ∀ j, (Value.slice (some ⟨g3, 0, none⟩) n n).ownBlock = some j → w2.heap.size ≤ j := fun j hj => (ho3.lt j hj).1
  have hb8 : Below w2.heap.size w7 w8 := hon8.below hx
  have c8 := c7.trans hb8
  have b8 : Below w.heap.size w w8 := b7.trans (hb8.mono b2.size)
  have o4b := hon8.owns o4 (apart ho3 ho4 (Nat.le_refl _))
  go_wp2_with fail
  refine (eqfs_any _ _ ys4.length ys4 ys0 _ (Row.of_owns o4b) (R0.below c8) (by omega) HC.out).mono ?_
  rintro e w9 ⟨rfl, m9, hw9⟩
  have hb9 : Below w8.heap.size w8 w9 := by rw [hw9]; exact below_drewN (Below.refl _ _) _
  clear hw9
  have b9 := onto b8 hb9
  have c9 := onto c8 hb9
  have o4c := owns_below o4b hb9
  go_wp2_with fail
  refine (mark_any w3.heap.size _ _ _ _ o4c (by omega)).mono ?_
  rintro e w10 ⟨rfl, ho10, hon10⟩
  have hy : ∀ j, v4.ownBlock = some j → w3.heap.size ≤ j := fun j hj => (ho4.lt j hj).1
  have hb10 : Below w3.heap.size w9 w10 := hon10.below hy
  have c10 : Below w2.heap.size w2 w10 := c9.trans (hb10.mono hb3.size)
  have b10 : Below w.heap.size w w10 := b9.trans (hb10.mono b3.size)
  go_wp2_with fail
  refine (held_any _ _ _ (Row.of_owns ho10) (by omega)).mono ?_
  rintro e w11 ⟨rfl, hw11⟩
  subst hw11
  have hp : ¬ (1 + (ys4.length : Int)) < 0 := by omega
  go_wp2_with fail
  refine (tofs_any _ n xs _ (hv.below b10) hn).mono ?_
  rintro e w12 ⟨g12, rfl, hg12, ho12, hb12⟩
  have b12 := onto b10 hb12
  have c12 := onto c10 hb12
  go_wp2_with fail
  refine (ifade s r _ n xs _ (Row.of_owns ho12) hn).mono ?_
  rintro e w13 ⟨v13, ys13, rfl, ho13, hc13, hb13⟩
  have b13 := onto b12 hb13
  have c13 := onto c12 hb13
  have d13 := onto hb12 hb13
  have hcc : ys13.map cls = ys0.map cls := hc13.trans HW.out.symm
  have hlen : ys13.length = ys4.length := by have := congrArg List.length (hcc.trans HC.out.symm); simpa using this
  rw [hlen] at ho13
  have HC3 : Hid (ys13.map cls = ys0.map cls) := hcc
  clear hcc hc13 hlen
  go_wp2_with fail
  refine (eqfs_any _ _ ys4.length ys13 ys0 _ (Row.of_owns ho13) (R0.below c13) (by omega) HC3.out).mono ?_
  rintro e w14 ⟨rfl, m14, hw14⟩
  have hb14 : Below w13.heap.size w13 w14 := by rw [hw14]; exact below_drewN (Below.refl _ _) _
  clear hw14
  have b14 := onto b13 hb14
  have d14 := onto d13 hb14
  go_wp2_with fail
  refine (held_any _ _ _ ((Row.of_owns ho10).below d14) (by omega)).mono ?_
  rintro e w15 ⟨rfl, hw15⟩
  subst hw15
  go_wp2
  go_ret
  exact ⟨rfl, b14⟩

set_option maxRecDepth 100000 in
theorem lifted (os : Os) (started : os.Started) (H : Type) (enc : TypeId × Value → H) :
    ReturnsInHanded {} Try.checked os 8 .any (Rows.fnExactFadeSpec.pre6 enc Try.prog Try.f8 Rows.fnExactFadeRow.domain false) (Rows.fnExactFadeSpec.post enc Try.prog Try.f8 false true false false) := by
  refine returnsInHanded_of_change (C := Try.checked) own started (by kernel_rfl) Try.func8
    (ChangeSpec.witness6 (enc := enc) (C := Try.checked) false ⟨#[], #[.float .f64 0, .float .f64 0, .slice none 0 0], []⟩ 8 (by kernel_rfl) (by kernel_rfl) (by kernel_rfl) (by kernel_rfl)) ?_
  intro W base args ds gs before hval0 hW hcnd _
  have hval : ∀ (j : Nat) t v, Try.f8.params[j]? = some t → args[j]? = some v → Value.okWide Try.prog W .any base t v := hval0
  have hW' := hW
  obtain ⟨p, q, hA0, hV, rfl, hfz, hnd⟩ := hW
  have hA : DataW.TrodAll enc Try.prog W 0 (fun _ => true) true Try.f8.params.toList args.toList ds p := hA0
  rw [Try.params8] at hA hval
  obtain ⟨v0, vs0, d0, ds0, p0, q0, hargs, rfl, rfl, h0, r0⟩ := trodAll_cons hA
  obtain ⟨v1, vs1, d1, ds1, p1, q1, rfl, rfl, rfl, h1, r1⟩ := trodAll_cons r0
  obtain ⟨v2, vs2, d2, ds2, p2, q2, rfl, rfl, rfl, h2, r2⟩ := trodAll_cons r1
  obtain ⟨rfl, rfl, rfl⟩ := trodAll_nil r2
  obtain rfl : args = #[v0, v1, v2] := by cases args; simp_all
  obtain ⟨rfl, rfl⟩ := trodVars_none hV
  obtain ⟨x0, rfl, rfl, rfl, wf0⟩ := open_float Try.underlying37 (hval 0 37 v0 rfl rfl) h0
  obtain ⟨x1, rfl, rfl, rfl, wf1⟩ := open_float Try.underlying37 (hval 1 37 v1 rfl rfl) h1
  obtain ⟨ao, len, cap, rfl⟩ := okWide_slice Try.underlying38 (hval 2 38 v2 rfl rfl)
  have k2 := h2
  have lt2 : ∀ x ∈ p2, x.block < W.heap.size := by obtain ⟨m, hm⟩ := k2; exact DataW.trod_lt m _ _ _ hm
  obtain ⟨xs, hrow⟩ := row_of_read Try.underlying38 Try.underlying37 (by kernel_rfl) h2
  clear hA0 hval0
  refine (walk x0 x1 _ len xs W hrow).mono fun e W' ⟨he, bel⟩ => ?_
  subst he
  exact ⟨_, rfl, _, _, _, [], _, [], hW', trodAll_mk1 (shut_bool Try.underlying4 _), (trodAll_cons_mk (shut_float Try.underlying37 wf0) (trodAll_cons_mk (shut_float Try.underlying37 wf1) (trodAll_cons_mk (Below.trod laidOut (by kernel_rfl) (of_decide_eq_true (by kernel_rfl)) k2 bel lt2) trodAll_mk0))), rfl, bel.frame _, fun h => by cases h⟩

theorem over : Rows.fnExactFadeRow.holds Try.pinned (OpenSpec.ofChange Rows.fnExactFadeSpec) :=
  OpenClaim.holds_of_wide 8 Try.f8 rfl rfl rfl rfl rfl rfl rfl ⟨rfl, rfl, rfl, rfl, rfl⟩ rfl rfl rfl rfl rfl (by kernel_rfl) Try.func8 (by kernel_rfl)
    (of_decide_eq_true (by kernel_rfl)) (by unfold Func.isWrapper; first | (rw [if_pos (by decide +kernel)]; kernel_rfl) | (rw [if_neg (by decide +kernel)]; exact ⟨rfl, rfl⟩))
    (fun os started H enc _ => lifted os started H enc)
end fnExactFade
theorem fnExactFade_holds : Rows.FnExactFadeSaid := fnExactFade.over
end Go.Proofs.Ytiopmlepdjiapaj
