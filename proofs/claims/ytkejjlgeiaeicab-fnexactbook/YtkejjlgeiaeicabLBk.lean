/-
  Proved: for every number and every list of lines, the program's Book answers as the specification's, writes into no argument, and its answer is its own (FnExactBook returns true). No conditions.
-/
import Derived.Test.YtkejjlgeiaeicabUb
import Derived.Test.YtkejjlgeiaeicabU3
import Derived.Test.YtkejjlgeiaeicabUl
import Derived.Test.YtkejjlgeiaeicabU4
namespace Go.Proofs.Ytkejjlgeiaeicab
open Go.RowKit Va Ua

namespace fnExactBook
open Go.ChangeShapes Go.WideShapes Go.ChangeAt Go.Joins
set_option linter.all false

theorem own : ownKnob Try.prog.godebug = none := by kernel_rfl
theorem laidOut : laidOutB Try.prog = true := by kernel_rfl

set_option maxRecDepth 20000 in
set_option maxHeartbeats 8000000 in
theorem walk (s : Int) (ao : Option Addr) (len cap : Nat) (l : List Ln) (w : World) (h : Rw 4 csLn w (.slice ao len cap) l) (hl : l.length = len) (hm : len ≤ maxLen) :
    Calls Try.prog 3 #[.int .i64 s, .slice ao len cap] w fun e w' => e = .returned (.bool true) ∧ Below w.heap.size w w' := by
  have hS := fun W => szlns_any ao len cap 1048576 W (by unfold maxLen at hm; omega) (by omega) (by omega)
  by_cases hbig : (1048576 : Int) < (len : Int)
  · simp only [if_pos hbig] at hS
    clear h
    go_enter Try.func3, Try.ntmps3
    go_wp2_with fail
    refine (hS _).mono ?_
    rintro e w1 ⟨rfl, rfl⟩
    go_wp2_with fail
    go_ret
    exact ⟨rfl, Below.refl _ _⟩
  simp only [if_neg hbig] at hS
  have hn : ¬ (1048576 : Int) - len < 0 := by omega
  have hll : l.length ≤ 1048576 := by omega
  have HT := hidden (fun W hW => tolns_any (.slice ao len cap) l W hW hll)
  have HJ := hidden h
  have HL := hidden hll
  have hLL : (book s l).length ≤ 1048576 := Nat.le_trans (book_len s l) (by decide)
  have HSM := hidden (fun a n c W hW => sbook_any s a n c l W hW hll)
  have HIM := hidden (fun a n c W hW => ibook_any s a n c l W hW hll)
  generalize book s l = L at *
  clear h hl hll
  go_enter Try.func3, Try.ntmps3
  go_wp2_with fail
  refine (hS _).mono ?_
  rintro e w1 ⟨rfl, hw1⟩
  have hw1' := hw1.symm
  clear hw1
  subst hw1'
  clear hS
  go_wp2_with fail
  refine (HT.out _ HJ.out).mono ?_
  rintro e w2 ⟨v2, rfl, hj2, hb2⟩
  obtain ⟨a2, k2, rfl⟩ := hj2.row.form
  have R2 := hidden hj2.row
  have K2 := hidden hb2
  clear hj2 hb2
  go_wp2_with fail
  refine (HSM.out _ _ _ _ R2.out).mono ?_
  rintro e w3 ⟨v3, rfl, ho3, hb3⟩
  obtain ⟨ad3, k3, rfl⟩ := ownW_slice ho3
  have K3 := hidden (K2.out.trans (hb3.mono K2.out.size))
  have V3 := hidden (ownI ho3).row
  clear hb3 R2 ho3 K2
  have b3 := K3.out
  have BR := hidden (fun W (hW : Below w3.heap.size w3 W) => HJ.out.below (b3.trans (hW.mono b3.size)))
  clear b3
  go_wp2_with fail
  refine (HT.out _ (HJ.out.below K3.out)).mono ?_
  rintro e w4 ⟨v4, rfl, hj4, hb4⟩
  obtain ⟨a4, k4, rfl⟩ := hj4.row.form
  have O4 := hidden hj4
  have z4 := hb4.size
  clear hj4
  go_wp2_with fail
  refine (HIM.out _ _ _ _ O4.out.row).mono ?_
  rintro e w6 ⟨v6, rfl, ho6, hb6⟩
  obtain ⟨ad6, k6, rfl⟩ := ownW_slice ho6
  have z6 := hb6.size
  have X6 := hidden (O4.out.below hb6)
  have O6 := hidden (ownI ho6)
  have K6 := hidden (hb4.trans (hb6.mono z4))
  clear hb4 hb6 ho6
  go_wp2_with fail
  refine (eqints_any _ _ L _ O6.out.row (V3.out.below K6.out) hLL).mono ?_
  rintro e w9 ⟨rfl, hb9⟩
  have K9 := hidden (K6.out.trans (hb9.mono K6.out.size))
  have X9 := hidden (X6.out.below hb9)
  have O9 := hidden (O6.out.below hb9)
  clear hb9 X6 O6 K6
  go_wp2_with fail
  refine (HT.out _ (BR.out _ K9.out)).mono ?_
  rintro e w10 ⟨v10, rfl, hj10, hb10⟩
  obtain ⟨a10, k10, rfl⟩ := hj10.row.form
  have K10 := hidden (K9.out.trans (hb10.mono K9.out.size))
  have X10 := hidden (X9.out.below hb10)
  have O10 := hidden (O9.out.below hb10)
  have R10 := hidden hj10.row
  clear hb10 hj10 X9 O9 K9
  go_wp2_with fail
  refine (eqlns_any _ _ l _ X10.out.row R10.out HL.out).mono ?_
  rintro e w11 ⟨rfl, hb11⟩
  have K11 := hidden (K10.out.trans (hb11.mono K10.out.size))
  have X11 := hidden (X10.out.below hb11)
  have O11 := hidden (O10.out.below hb11)
  clear hb11 R10 X10 O10 K10
  go_wp2_with fail
  refine (markln_any _ l _ 1 _ X11.out HL.out (by omega) (by omega)).mono ?_
  rintro e w12 ⟨rfl, -, ha12, hz12⟩
  have K12 := hidden (X11.out.mark_below ha12 hz12 K11.out (Nat.le_refl _))
  have O12 := hidden (O4.out.mark_own (Nat.le_refl _) ha12 hz12 O11.out)
  have n12 : ¬ (1 + 4 * (l.length : Int)) < 0 := by omega
  clear ha12 hz12 X11 O11 K11
  go_wp2_with fail
  refine (eqints_any _ _ L _ O12.out.row (V3.out.below K12.out) hLL).mono ?_
  rintro e w14 ⟨rfl, hb14⟩
  have K14 := hidden (K12.out.trans (hb14.mono K12.out.size))
  have O14 := hidden (O12.out.below hb14)
  clear hb14 O12 K12
  go_wp2_with fail
  refine (markint_any _ L _ 1 _ O14.out hLL (by omega) (by omega)).mono ?_
  rintro e w15 ⟨rfl, hm15, ha15, hz15⟩
  have K15 := hidden (O14.out.mark_below ha15 hz15 K14.out z4)
  have M8 := hidden hm15
  have n8 : ¬ (1 + (L.length : Int)) < 0 := by omega
  clear hm15 ha15 hz15 O14 K14
  go_wp2_with fail
  refine (heldint_any _ 1 L.length _ M8.out.row hLL (by omega) (by omega)).mono ?_
  rintro e w9 ⟨rfl, hw9⟩
  have hw10 := hw9.symm
  clear hw9
  subst hw10
  go_wp2_with fail
  refine (HT.out _ (BR.out _ K15.out)).mono ?_
  rintro e w16 ⟨v16, rfl, hj16, hb16⟩
  obtain ⟨a16, k16, rfl⟩ := hj16.row.form
  have K16 := hidden (K15.out.trans (hb16.mono K15.out.size))
  have M16 := hidden (M8.out.below hb16)
  have R16 := hidden hj16.row
  clear hb16 hj16 K15 M8
  go_wp2_with fail
  refine (HIM.out _ _ _ _ R16.out).mono ?_
  rintro e w17 ⟨v17, rfl, ho17, hb17⟩
  obtain ⟨ad17, k17, rfl⟩ := ownW_slice ho17
  have V11 := hidden (ownI ho17).row
  have K11 := hidden (K16.out.trans (hb17.mono K16.out.size))
  have M11 := hidden (M16.out.below hb17)
  clear ho17 hb17 K16 M16 R16
  go_wp2_with fail
  refine (eqints_any _ _ L _ V11.out (V3.out.below K11.out) hLL).mono ?_
  rintro e w12 ⟨rfl, hb12⟩
  have K12 := hidden (K11.out.trans (hb12.mono K11.out.size))
  have M12 := hidden (M11.out.below hb12)
  clear hb12 K11 M11 V11
  go_wp2_with fail
  refine (heldint_any _ 1 L.length _ M12.out.row hLL (by omega) (by omega)).mono ?_
  rintro e w13 ⟨rfl, hw13⟩
  have hw14 := hw13.symm
  clear hw13
  subst hw14
  go_wp2_with fail
  go_ret
  exact ⟨rfl, onto K3.out K12.out⟩

set_option maxRecDepth 100000 in
theorem lifted (os : Os) (started : os.Started) (H : Type) (enc : TypeId × Value → H) :
    ReturnsInHanded {} Try.checked os 3 .any (Rows.fnExactBookSpec.pre6 enc Try.prog Try.f3 Rows.fnExactBookRow.domain false) (Rows.fnExactBookSpec.post enc Try.prog Try.f3 false true false false) := by
  refine returnsInHanded_of_change (C := Try.checked) own started (by kernel_rfl) Try.func3
    (ChangeSpec.witness6 (enc := enc) (C := Try.checked) false ⟨#[], #[.int .i64 0, .slice none 0 0], []⟩ 8 (by kernel_rfl) (by kernel_rfl) (by kernel_rfl) (by kernel_rfl)) ?_
  intro W base args ds gs before hval0 hW hcnd _
  have hval : ∀ (j : Nat) t v, Try.f3.params[j]? = some t → args[j]? = some v → Value.okWide Try.prog W .any base t v := hval0
  have hW' := hW
  obtain ⟨p, q, hA0, hV, rfl, hfz, hnd⟩ := hW
  have hA : DataW.TrodAll enc Try.prog W 0 (fun _ => true) true Try.f3.params.toList args.toList ds p := hA0
  rw [Try.params3] at hA hval
  obtain ⟨v0, vs0, d0, ds0, p0, q0, hargs, rfl, rfl, h0, r0⟩ := trodAll_cons hA
  obtain ⟨v1, vs1, d1, ds1, p1, q1, rfl, rfl, rfl, h1, r1⟩ := trodAll_cons r0
  obtain ⟨rfl, rfl, rfl⟩ := trodAll_nil r1
  obtain rfl : args = #[v0, v1] := by cases args; simp_all
  obtain ⟨rfl, rfl⟩ := trodVars_none hV
  obtain ⟨s, rfl, rfl, rfl, k0⟩ := open_int Try.underlying2 (hval 0 2 v0 rfl rfl) h0
  have k1 := h1
  have lt1 : ∀ x ∈ p1, x.block < W.heap.size := by obtain ⟨m, hm⟩ := k1; exact DataW.trod_lt m _ _ _ hm
  obtain ⟨ao, len, cap, rfl⟩ := okWide_slice Try.underlying22 (hval 1 22 v1 rfl rfl)
  obtain ⟨l, hl, hm, hrow⟩ := lns_of_read h1
  clear hA0 hval0
  refine (walk s ao len cap l W hrow hl hm).mono fun e W' ⟨he, bel⟩ => ?_
  subst he
  exact ⟨_, rfl, _, _, _, [], _, [], hW', trodAll_mk1 (shut_bool Try.underlying4 _), (trodAll_cons_mk (shut_int Try.underlying2 k0) (trodAll_cons_mk (Below.trod laidOut (by kernel_rfl) (of_decide_eq_true (by kernel_rfl)) k1 bel lt1) trodAll_mk0)), rfl, bel.frame _, fun h => by cases h⟩

theorem over : Rows.fnExactBookRow.holds Try.pinned (OpenSpec.ofChange Rows.fnExactBookSpec) :=
  OpenClaim.holds_of_wide 3 Try.f3 rfl rfl rfl rfl rfl rfl rfl ⟨rfl, rfl, rfl, rfl, rfl⟩ rfl rfl rfl rfl rfl (by kernel_rfl) Try.func3 (by kernel_rfl)
    (of_decide_eq_true (by kernel_rfl)) (by unfold Func.isWrapper; first | (rw [if_pos (by decide +kernel)]; kernel_rfl) | (rw [if_neg (by decide +kernel)]; exact ⟨rfl, rfl⟩))
    (fun os started H enc _ => lifted os started H enc)
end fnExactBook
theorem fnExactBook_holds : Rows.FnExactBookSaid := fnExactBook.over
end Go.Proofs.Ytkejjlgeiaeicab
