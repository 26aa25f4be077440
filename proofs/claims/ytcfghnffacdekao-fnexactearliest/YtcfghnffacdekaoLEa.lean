/-
  Proved: for every list of operations, every operation and every rest, the program's Earliest answers as the specification's, and writes into no argument (FnExactEarliest returns true). No conditions.
-/
import Derived.Test.YtcfghnffacdekaoOn
import Derived.Test.YtcfghnffacdekaoOj
namespace Go.Proofs.Ytcfghnffacdekao
open Go.RowKit Va Oa

namespace fnExactEarliest
open Go.ChangeShapes Go.WideShapes Go.ChangeAt Go.Joins
set_option linter.unusedVariables false

theorem own : ownKnob Try.prog.godebug = none := by kernel_rfl
theorem laidOut : laidOutB Try.prog = true := by kernel_rfl

theorem box_below {W W' : World} {b : Nat} {v0 v1 v2 v3 : Value} (h : OBox4 W b v0 v1 v2 v3) (hb : Below W.heap.size W W') (hl : b < W.heap.size) : OBox4 W' b v0 v1 v2 v3 :=
  ⟨((bcell hb).1 _ _ hl).trans h.1, ((bcell hb).1 _ _ hl).trans h.2.1, ((bcell hb).1 _ _ hl).trans h.2.2.1, ((bcell hb).1 _ _ hl).trans h.2.2.2⟩

set_option maxRecDepth 20000 in
set_option maxHeartbeats 4000000 in
theorem walk (ao : Option Addr) (len cap : Nat) (l : List Opn) (x : Opn) (ta : Option Addr) (tc : Nat) (r : Int) (w : World) (h : ORw w (.slice ao len cap) l) (hl : l.length = len) (hm : len ≤ maxLen) (htm : ∀ x ∈ l, x.team.length ≤ maxLen)
    (hxm : x.team.length ≤ maxLen) (hxr : IRw w (.slice ta x.team.length tc) x.team) :
    Calls Try.prog 3 #[.slice ao len cap, aO x (.slice ta x.team.length tc), .int .i64 r] w fun e w' => e = .returned (.bool true) ∧ Below w.heap.size w w' := by
  have hS := fun W hW => szops_any ao len cap l 1048576 W hW (by omega) htm (by omega) (by omega)
  have HJ := hidden (fun W (hW : Below w.heap.size w W) => h.below hW)
  have HX := hidden (fun W (hW : Below w.heap.size w W) => hxr.below hW)
  clear h htm hxr
  unfold aO
  go_enter Try.func3, Try.ntmps3
  go_wp2_with fail
  refine (hS _ (HJ.out _ (by repeat (first | exact Below.refl _ _ | assumption | refine st_drew ?_ | refine st_drewN ?_ _ | refine Below.setCell ?_ (by first | omega | (simp; done) | (simp; omega)) _ | refine Below.alloc ?_ (by first | omega | (simp; done) | (simp; omega)) _)))).mono ?_
  rintro e w0 ⟨q, rfl, hr, hb0⟩
  obtain ⟨d0, d1, d2, d3, z0⟩ := one_box hb0
  have b0 := onto (show Below w.heap.size w _ from by repeat (first | exact Below.refl _ _ | assumption | refine st_drew ?_ | refine st_drewN ?_ _ | refine Below.setCell ?_ (by first | omega | (simp; done) | (simp; omega)) _ | refine Below.alloc ?_ (by first | omega | (simp; done) | (simp; omega)) _)) hb0
  clear hS hb0
  rcases hr with hr | ⟨hr0, hr1, hll, hlt⟩
  · go_wp2_with fail
    go_ret
    exact ⟨rfl, b0⟩
  have hr2 : ¬ q < 0 := by omega
  have hZ := fun W => szop_any x ta x.team.length tc q W (by unfold maxLen at hxm; omega) hr0 (by omega)
  unfold aO at hZ
  go_wp2_with fail
  refine (hZ _).mono ?_
  rintro e w1 ⟨rfl, hb1⟩
  have X1 := hidden (box_below (show OBox4 w0 w.heap.size _ _ _ _ from ⟨d0, d1, d2, d3⟩) hb1 (by omega))
  have b1 := onto b0 hb1
  have z1 : w.heap.size < w1.heap.size := by have := hb1.size; omega
  clear hZ hb1 b0 d0 d1 d2 d3 z0
  by_cases hs : q < (x.team.length : Int)
  · rw [if_pos hs]
    go_wp2_with fail
    go_ret
    exact ⟨rfl, b1⟩
  rw [if_neg hs]
  have hs2 : ¬ q - x.team.length < 0 := by omega
  have hxl : x.team.length ≤ 1048576 := by omega
  have HT := hidden (fun W hW => toops_any ao len cap l W hW hll hlt)
  have HU := hidden (fun W hW => toop_any x ta x.team.length tc W hW hxl)
  have HE := hidden (fun (T : Nat) (W : World) hW => eqop_any x (some ⟨T, 0, none⟩) x.team.length x.team.length (some ⟨W.heap.size, 0, none⟩) x.team.length x.team.length W hW)
  have HSP := hidden (fun g T W hW1 hW2 => searlT_any x (some ⟨T, 0, none⟩) x.team.length x.team.length (some ⟨g, 0, none⟩) l.length l.length l r W hW1 hll hlt hW2 hxl)
  have HIM := hidden (fun g T W hW1 hW2 => iearl_any x (some ⟨T, 0, none⟩) x.team.length x.team.length (some ⟨g, 0, none⟩) l.length l.length l r W hW1 hll hlt hW2 hxl)
  have HQ := hidden (fun T1 T2 W hW1 hW2 => eqop_any x (some ⟨T1, 0, none⟩) x.team.length x.team.length (some ⟨T2, 0, none⟩) x.team.length x.team.length W hW1 hW2 hxl)
  have HL := hidden hll
  have HM := hidden hlt
  unfold aO at HU HSP HIM HQ
  clear HE hll hlt hl
  obtain ⟨d0, d1, d2, d3⟩ := X1.out
  go_wp2_with fail
  first | go_region_with (first
    | (go_at_call 9; refine (HT.out _ (HJ.out _ (by repeat (first | exact Below.refl _ _ | assumption | refine st_drew ?_ | refine st_drewN ?_ _ | refine Below.setCell ?_ (by first | omega | (simp; done) | (simp; omega)) _ | refine Below.alloc ?_ (by first | omega | (simp; done) | (simp; omega)) _)))).mono ?_; rintro e w2 ⟨rfl, hj2, hb2⟩; have X2 := hidden (box_below (box_below X1.out (show Below w1.heap.size w1 _ from by repeat (first | exact Below.refl _ _ | assumption | refine st_drew ?_ | refine st_drewN ?_ _ | refine Below.setCell ?_ (by first | omega | (simp; done) | (simp; omega)) _ | refine Below.alloc ?_ (by first | omega | (simp; done) | (simp; omega)) _)) z1) hb2 (by first | exact z1 | (simp; exact z1))); obtain ⟨e0, e1, e2, e3⟩ := X2.out; have b2 := onto (show Below w.heap.size w _ from by repeat (first | exact Below.refl _ _ | assumption | refine st_drew ?_ | refine st_drewN ?_ _ | refine Below.setCell ?_ (by first | omega | (simp; done) | (simp; omega)) _ | refine Below.alloc ?_ (by first | omega | (simp; done) | (simp; omega)) _)) hb2; have z2 : w.heap.size < w2.heap.size := Nat.lt_of_lt_of_le (by first | exact z1 | (simp; exact z1)) hb2.size; have R2 := hidden (hj2.orw l.length (Nat.le_refl _)); clear hj2 hb2)
    | (go_at_call 10; refine (HU.out _ (HX.out _ (by repeat (first | exact Below.refl _ _ | assumption | refine st_drew ?_ | refine st_drewN ?_ _ | refine Below.setCell ?_ (by first | omega | (simp; done) | (simp; omega)) _ | refine Below.alloc ?_ (by first | omega | (simp; done) | (simp; omega)) _)))).mono ?_; rintro e w3 ⟨T3, hT3, rfl, ho3, hb3⟩; have X3 := hidden (box_below (box_below X2.out (show Below w2.heap.size w2 _ from by repeat (first | exact Below.refl _ _ | assumption | refine st_drew ?_ | refine st_drewN ?_ _ | refine Below.setCell ?_ (by first | omega | (simp; done) | (simp; omega)) _ | refine Below.alloc ?_ (by first | omega | (simp; done) | (simp; omega)) _)) z2) hb3 (by first | exact z2 | (simp; exact z2))); have b3 := onto (show Below w.heap.size w _ from by repeat (first | exact Below.refl _ _ | assumption | refine st_drew ?_ | refine st_drewN ?_ _ | refine Below.setCell ?_ (by first | omega | (simp; done) | (simp; omega)) _ | refine Below.alloc ?_ (by first | omega | (simp; done) | (simp; omega)) _)) hb3; have z3 : w.heap.size < w3.heap.size := Nat.lt_of_lt_of_le (by first | exact z2 | (simp; exact z2)) hb3.size; have R3 := hidden ((R2.out.below (show Below w2.heap.size w2 _ from by repeat (first | exact Below.refl _ _ | assumption | refine st_drew ?_ | refine st_drewN ?_ _ | refine Below.setCell ?_ (by first | omega | (simp; done) | (simp; omega)) _ | refine Below.alloc ?_ (by first | omega | (simp; done) | (simp; omega)) _))).below hb3); have U3 := hidden (out_irw ho3 _ (Nat.le_refl _)); clear ho3 hb3)
    | (go_at_call 8; refine (HSP.out _ _ _ (R3.out.below (by repeat (first | exact Below.refl _ _ | assumption | refine st_drew ?_ | refine st_drewN ?_ _ | refine Below.setCell ?_ (by first | omega | (simp; done) | (simp; omega)) _ | refine Below.alloc ?_ (by first | omega | (simp; done) | (simp; omega)) _))) (U3.out.below (by repeat (first | exact Below.refl _ _ | assumption | refine st_drew ?_ | refine st_drewN ?_ _ | refine Below.setCell ?_ (by first | omega | (simp; done) | (simp; omega)) _ | refine Below.alloc ?_ (by first | omega | (simp; done) | (simp; omega)) _)))).mono ?_; rintro e w4 ⟨rfl, hb4⟩; have X4 := hidden (box_below (box_below X3.out (show Below w3.heap.size w3 _ from by repeat (first | exact Below.refl _ _ | assumption | refine st_drew ?_ | refine st_drewN ?_ _ | refine Below.setCell ?_ (by first | omega | (simp; done) | (simp; omega)) _ | refine Below.alloc ?_ (by first | omega | (simp; done) | (simp; omega)) _)) z3) hb4 (by first | exact z3 | (simp; exact z3))); have b4 := onto (show Below w.heap.size w _ from by repeat (first | exact Below.refl _ _ | assumption | refine st_drew ?_ | refine st_drewN ?_ _ | refine Below.setCell ?_ (by first | omega | (simp; done) | (simp; omega)) _ | refine Below.alloc ?_ (by first | omega | (simp; done) | (simp; omega)) _)) hb4; have z4 : w.heap.size < w4.heap.size := Nat.lt_of_lt_of_le (by first | exact z3 | (simp; exact z3)) hb4.size; clear hb4)) | fail
  all_goals go_wp2_with fail
  all_goals refine (HT.out _ (HJ.out _ (by repeat (first | exact Below.refl _ _ | assumption | refine st_drew ?_ | refine st_drewN ?_ _ | refine Below.setCell ?_ (by first | omega | (simp; done) | (simp; omega)) _ | refine Below.alloc ?_ (by first | omega | (simp; done) | (simp; omega)) _)))).mono ?_
  all_goals rintro e w5 ⟨rfl, hj5, hb5⟩
  all_goals have X5 := hidden (box_below (box_below X4.out (show Below w4.heap.size w4 _ from by repeat (first | exact Below.refl _ _ | assumption | refine st_drew ?_ | refine st_drewN ?_ _ | refine Below.setCell ?_ (by first | omega | (simp; done) | (simp; omega)) _ | refine Below.alloc ?_ (by first | omega | (simp; done) | (simp; omega)) _)) z4) hb5 (by first | exact z4 | (simp; exact z4)))
  all_goals have b5 := onto (show Below w.heap.size w _ from by repeat (first | exact Below.refl _ _ | assumption | refine st_drew ?_ | refine st_drewN ?_ _ | refine Below.setCell ?_ (by first | omega | (simp; done) | (simp; omega)) _ | refine Below.alloc ?_ (by first | omega | (simp; done) | (simp; omega)) _)) hb5
  all_goals have z5 : w.heap.size < w5.heap.size := Nat.lt_of_lt_of_le (by first | exact z4 | (simp; exact z4)) hb5.size
  all_goals have R5 := hidden (hj5.orw l.length (Nat.le_refl _))
  all_goals obtain ⟨f0, f1, f2, f3⟩ := X5.out
  all_goals clear hj5 hb5 X4 b4 z4
  all_goals go_wp2_with fail
  all_goals refine (HU.out _ (HX.out _ (by repeat (first | exact Below.refl _ _ | assumption | refine st_drew ?_ | refine st_drewN ?_ _ | refine Below.setCell ?_ (by first | omega | (simp; done) | (simp; omega)) _ | refine Below.alloc ?_ (by first | omega | (simp; done) | (simp; omega)) _)))).mono ?_
  all_goals rintro e w6 ⟨T6, hT6, rfl, ho6, hb6⟩
  all_goals have X6 := hidden (box_below X5.out hb6 z5)
  all_goals have b6 := onto b5 hb6
  all_goals have z6 : w.heap.size < w6.heap.size := Nat.lt_of_lt_of_le z5 hb6.size
  all_goals have R6 := hidden (R5.out.below hb6)
  all_goals have U6 := hidden (out_irw ho6 _ (Nat.le_refl _))
  all_goals clear ho6 hb6 X5 b5 f0 f1 f2 f3
  all_goals go_wp2_with fail
  all_goals refine (HIM.out _ _ _ (R6.out.below (by repeat (first | exact Below.refl _ _ | assumption | refine st_drew ?_ | refine st_drewN ?_ _ | refine Below.setCell ?_ (by first | omega | (simp; done) | (simp; omega)) _ | refine Below.alloc ?_ (by first | omega | (simp; done) | (simp; omega)) _))) (U6.out.below (by repeat (first | exact Below.refl _ _ | assumption | refine st_drew ?_ | refine st_drewN ?_ _ | refine Below.setCell ?_ (by first | omega | (simp; done) | (simp; omega)) _ | refine Below.alloc ?_ (by first | omega | (simp; done) | (simp; omega)) _)))).mono ?_
  all_goals rintro e w7 ⟨rfl, hb7⟩
  all_goals obtain ⟨g0, g1, g2, g3, z7'⟩ := one_box hb7
  all_goals have X7 := hidden (box_below (box_below X6.out (show Below w6.heap.size w6 _ from by repeat (first | exact Below.refl _ _ | assumption | refine st_drew ?_ | refine st_drewN ?_ _ | refine Below.setCell ?_ (by first | omega | (simp; done) | (simp; omega)) _ | refine Below.alloc ?_ (by first | omega | (simp; done) | (simp; omega)) _)) z6) hb7 (by simp only [World.size_alloc]; omega))
  all_goals have b7 := onto (show Below w.heap.size w _ from by repeat (first | exact Below.refl _ _ | assumption | refine st_drew ?_ | refine st_drewN ?_ _ | refine Below.setCell ?_ (by first | omega | (simp; done) | (simp; omega)) _ | refine Below.alloc ?_ (by first | omega | (simp; done) | (simp; omega)) _)) hb7
  all_goals have z7 : w.heap.size < w7.heap.size := by omega
  all_goals have R7 := hidden ((R6.out.below (show Below w6.heap.size w6 _ from by repeat (first | exact Below.refl _ _ | assumption | refine st_drew ?_ | refine st_drewN ?_ _ | refine Below.setCell ?_ (by first | omega | (simp; done) | (simp; omega)) _ | refine Below.alloc ?_ (by first | omega | (simp; done) | (simp; omega)) _))).below hb7)
  all_goals have U7 := hidden ((U6.out.below (show Below w6.heap.size w6 _ from by repeat (first | exact Below.refl _ _ | assumption | refine st_drew ?_ | refine st_drewN ?_ _ | refine Below.setCell ?_ (by first | omega | (simp; done) | (simp; omega)) _ | refine Below.alloc ?_ (by first | omega | (simp; done) | (simp; omega)) _))).below hb7)
  all_goals clear hb7 X6 b6 R6 U6
  all_goals generalize erl l x r = t at *
  all_goals go_wp2_with fail
  all_goals refine (HT.out _ (HJ.out _ (by repeat (first | exact Below.refl _ _ | assumption | refine st_drew ?_ | refine st_drewN ?_ _ | refine Below.setCell ?_ (by first | omega | (simp; done) | (simp; omega)) _ | refine Below.alloc ?_ (by first | omega | (simp; done) | (simp; omega)) _)))).mono ?_
  all_goals rintro e w8 ⟨rfl, hj8, hb8⟩
  all_goals have X8 := hidden (box_below X7.out hb8 z7)
  all_goals have Y8 := hidden (box_below (show OBox4 w7 w6.heap.size _ _ _ _ from ⟨g0, g1, g2, g3⟩) hb8 (by omega))
  all_goals have b8 := onto b7 hb8
  all_goals have z8 : w.heap.size < w8.heap.size := Nat.lt_of_lt_of_le z7 hb8.size
  all_goals have y8 : w6.heap.size < w8.heap.size := by have := hb8.size; omega
  all_goals have R8 := hidden (R7.out.below hb8)
  all_goals have U8 := hidden (U7.out.below hb8)
  all_goals have S8 := hidden (hj8.orw l.length (Nat.le_refl _))
  all_goals clear hj8 hb8 X7 b7 R7 U7 g0 g1 g2 g3
  all_goals go_wp2_with fail
  all_goals refine (eqops_any _ _ _ _ _ _ l _ R8.out S8.out HL.out HM.out).mono ?_
  all_goals rintro e w9 ⟨rfl, hb9⟩
  all_goals have X9 := hidden (box_below X8.out hb9 z8)
  all_goals have Y9 := hidden (box_below Y8.out hb9 y8)
  all_goals have b9 := onto b8 hb9
  all_goals have z9 : w.heap.size < w9.heap.size := Nat.lt_of_lt_of_le z8 hb9.size
  all_goals have y9 : w6.heap.size < w9.heap.size := Nat.lt_of_lt_of_le y8 hb9.size
  all_goals have U9 := hidden (U8.out.below hb9)
  all_goals clear hb9 X8 Y8 b8 R8 S8 U8
  all_goals obtain ⟨i0, i1, i2, i3⟩ := X9.out
  all_goals obtain ⟨j0, j1, j2, j3⟩ := Y9.out
  all_goals go_wp2_with fail
  all_goals first | go_region_with (first
    | (go_at_call 10; refine (HU.out _ (HX.out _ (by repeat (first | exact Below.refl _ _ | assumption | refine st_drew ?_ | refine st_drewN ?_ _ | refine Below.setCell ?_ (by first | omega | (simp; done) | (simp; omega)) _ | refine Below.alloc ?_ (by first | omega | (simp; done) | (simp; omega)) _)))).mono ?_; rintro e wA ⟨TA, hTA, rfl, hoA, hbA⟩; obtain ⟨k0, k1, k2, k3⟩ := box_below (box_below Y9.out (show Below w9.heap.size w9 _ from by repeat (first | exact Below.refl _ _ | assumption | refine st_drew ?_ | refine st_drewN ?_ _ | refine Below.setCell ?_ (by first | omega | (simp; done) | (simp; omega)) _ | refine Below.alloc ?_ (by first | omega | (simp; done) | (simp; omega)) _)) y9) hbA (by first | exact y9 | (simp; exact y9)); have bA := onto (show Below w.heap.size w _ from by repeat (first | exact Below.refl _ _ | assumption | refine st_drew ?_ | refine st_drewN ?_ _ | refine Below.setCell ?_ (by first | omega | (simp; done) | (simp; omega)) _ | refine Below.alloc ?_ (by first | omega | (simp; done) | (simp; omega)) _)) hbA; have UA := hidden ((U9.out.below (show Below w9.heap.size w9 _ from by repeat (first | exact Below.refl _ _ | assumption | refine st_drew ?_ | refine st_drewN ?_ _ | refine Below.setCell ?_ (by first | omega | (simp; done) | (simp; omega)) _ | refine Below.alloc ?_ (by first | omega | (simp; done) | (simp; omega)) _))).below hbA); have VA := hidden (out_irw hoA _ (Nat.le_refl _)); clear hoA hbA)
    | (go_at_call 13; refine (HQ.out _ _ _ (UA.out.below (by repeat (first | exact Below.refl _ _ | assumption | refine st_drew ?_ | refine st_drewN ?_ _ | refine Below.setCell ?_ (by first | omega | (simp; done) | (simp; omega)) _ | refine Below.alloc ?_ (by first | omega | (simp; done) | (simp; omega)) _))) (VA.out.below (by repeat (first | exact Below.refl _ _ | assumption | refine st_drew ?_ | refine st_drewN ?_ _ | refine Below.setCell ?_ (by first | omega | (simp; done) | (simp; omega)) _ | refine Below.alloc ?_ (by first | omega | (simp; done) | (simp; omega)) _)))).mono ?_; rintro e wB ⟨rfl, hbB⟩; have bB := onto (show Below w.heap.size w _ from by repeat (first | exact Below.refl _ _ | assumption | refine st_drew ?_ | refine st_drewN ?_ _ | refine Below.setCell ?_ (by first | omega | (simp; done) | (simp; omega)) _ | refine Below.alloc ?_ (by first | omega | (simp; done) | (simp; omega)) _)) hbB; clear hbB)) | fail
  all_goals go_wp2_with fail
  all_goals go_ret
  all_goals exact ⟨rfl, by repeat (first | exact Below.refl _ _ | assumption | refine st_drew ?_ | refine st_drewN ?_ _ | refine Below.setCell ?_ (by first | omega | (simp; done) | (simp; omega)) _ | refine Below.alloc ?_ (by first | omega | (simp; done) | (simp; omega)) _)⟩

set_option maxRecDepth 100000 in
theorem lifted (os : Os) (started : os.Started) (H : Type) (enc : TypeId × Value → H) :
    ReturnsInHanded {} Try.checked os 3 .any (Rows.fnExactEarliestSpec.pre6 enc Try.prog Try.f3 Rows.fnExactEarliestRow.domain false) (Rows.fnExactEarliestSpec.post enc Try.prog Try.f3 false true false false) := by
  refine returnsInHanded_of_change (C := Try.checked) own started (by kernel_rfl) Try.func3
    (ChangeSpec.witness6 (enc := enc) (C := Try.checked) false ⟨#[], #[.slice none 0 0, .agg #[.int .i64 0, .int .i64 0, .int .i64 0, .slice none 0 0], .int .i64 0], []⟩ 8 (by kernel_rfl) (by kernel_rfl) (by kernel_rfl) (by kernel_rfl)) ?_
  intro W base args ds gs before hval0 hW hcnd _
  have hval : ∀ (j : Nat) t v, Try.f3.params[j]? = some t → args[j]? = some v → Value.okWide Try.prog W .any base t v := hval0
  have hW' := hW
  obtain ⟨p, q, hA0, hV, rfl, hfz, hnd⟩ := hW
  have hA : DataW.TrodAll enc Try.prog W 0 (fun _ => true) true Try.f3.params.toList args.toList ds p := hA0
  rw [Try.params3] at hA hval
  obtain ⟨v0, vs0, d0, ds0, p0, q0, hargs, rfl, rfl, h0, r0⟩ := trodAll_cons hA
  obtain ⟨v1, vs1, d1, ds1, p1, q1, rfl, rfl, rfl, h1, r1⟩ := trodAll_cons r0
  obtain ⟨v2, vs2, d2, ds2, p2, q2, rfl, rfl, rfl, h2, r2⟩ := trodAll_cons r1
  obtain ⟨rfl, rfl, rfl⟩ := trodAll_nil r2
  obtain rfl : args = #[v0, v1, v2] := by cases args; simp_all
  obtain ⟨rfl, rfl⟩ := trodVars_none hV
  have k0 := h0
  have lt0 : ∀ x ∈ p0, x.block < W.heap.size := by obtain ⟨m, hm⟩ := k0; exact DataW.trod_lt m _ _ _ hm
  obtain ⟨ao, len, cap, rfl⟩ := okWide_slice Try.underlying22 (hval 0 22 v0 rfl rfl)
  obtain ⟨l, hl, hm, hrow, htm⟩ := ops_of_read h0
  have k1 := h1
  have lt1 : ∀ x ∈ p1, x.block < W.heap.size := by obtain ⟨m, hm⟩ := k1; exact DataW.trod_lt m _ _ _ hm
  obtain ⟨x, ta, tc, rfl, hxm, hxr⟩ := op_of_read (hval 1 25 v1 rfl rfl) h1
  obtain ⟨x2, rfl, rfl, rfl, k2⟩ := open_int Try.underlying2 (hval 2 2 v2 rfl rfl) h2
  clear hA0 hval0
  refine (walk ao len cap l x ta tc x2 W hrow hl hm htm hxm hxr).mono fun e W' ⟨he, bel⟩ => ?_
  subst he
  exact ⟨_, rfl, _, _, _, [], _, [], hW', trodAll_mk1 (shut_bool Try.underlying4 _), (trodAll_cons_mk (Below.trod laidOut (by kernel_rfl) (of_decide_eq_true (by kernel_rfl)) k0 bel lt0) (trodAll_cons_mk (Below.trod laidOut (by kernel_rfl) (of_decide_eq_true (by kernel_rfl)) k1 bel lt1) (trodAll_cons_mk (shut_int Try.underlying2 k2) trodAll_mk0))), rfl, bel.frame _, fun h => by cases h⟩

theorem over : Rows.fnExactEarliestRow.holds Try.pinned (OpenSpec.ofChange Rows.fnExactEarliestSpec) :=
  OpenClaim.holds_of_wide 3 Try.f3 rfl rfl rfl rfl rfl rfl rfl ⟨rfl, rfl, rfl, rfl, rfl⟩ rfl rfl rfl rfl rfl (by kernel_rfl) Try.func3 (by kernel_rfl)
    (of_decide_eq_true (by kernel_rfl)) (by unfold Func.isWrapper; first | (rw [if_pos (by decide +kernel)]; kernel_rfl) | (rw [if_neg (by decide +kernel)]; exact ⟨rfl, rfl⟩))
    (fun os started H enc _ => lifted os started H enc)
end fnExactEarliest
theorem fnExactEarliest_holds : Rows.FnExactEarliestSaid := fnExactEarliest.over
end Go.Proofs.Ytcfghnffacdekao
