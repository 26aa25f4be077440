/-
  Proved: for every message, the program's MessageOk answers as the specification's, and writes into no argument (FnExactMessageOk returns true). No conditions.
-/
import Derived.Test.YtbabknhccapaoaaM17
import Derived.Test.YtbabknhccapaoaaRn
import Derived.Test.YtbabknhccapaoaaRm
namespace Go.Proofs.Ytbabknhccapaoaa
open Go.RowKit Va Ms

namespace fnExactMessageOk
open Go.ChangeShapes Go.WideShapes Go.ChangeAt Go.Joins
set_option linter.all false

theorem own : ownKnob Try.prog.godebug = none := by kernel_rfl
theorem laidOut : laidOutB Try.prog = true := by kernel_rfl


theorem ontoA {b : Nat} {w w1 w2 : World} (h1 : Below b w w1) (h2 : Below w1.heap.size w1 w2) (hs : b ≤ w1.heap.size) : Below b w w2 := h1.trans (h2.mono hs)

def FX10LMe (AB XB : Nat) (ag a2 : Option Addr) (cg c2 : Nat) (l : List Pt) (i9 : Nat) (v : Value) (w : World) : Prop :=
  match i9 with
  | 0 => v = .agg #[.slice a2 l.length c2]
  | 1 => v = .agg #[.slice ag l.length cg]
  | 2 => ∃ a5 c5, v = .agg #[.slice a5 l.length c5] ∧ PRw w (.slice a5 l.length c5) l
  | 3 => v = .bool true
  | 4 => v = .bool false
  | _ => True
theorem sizeX10LMe : (Rg.opsOf Try.f4 10).size = 5 := by kernel_rfl

set_option maxRecDepth 20000 in
set_option maxHeartbeats 8000000 in
theorem regX10LMe {Q : Exit → Act → World → Prop} {a : Act} {w9 : World} {AB XB : Nat} {ag a2 : Option Addr} {cg c2 : Nat} {l : List Pt} (ha : a.tmps.size = 27)
    (k1 : a.tmps[1]? = some (.pointer (some ⟨AB, 0, none⟩))) (k5 : a.tmps[5]? = some (.pointer (some ⟨XB, 0, none⟩))) (hA2 : PB w9 AB #[.slice ag l.length cg] 37) (hX2 : PB w9 XB #[.slice a2 l.length c2] 42) (r1 : PRw w9 (.slice ag l.length cg) l) (s1 : PRw w9 (.slice a2 l.length c2) l) (lG : l.length ≤ 1048576) (lC : ∀ x ∈ l, PSm x)
    (hend : ∀ b' w', Rg.Fr (Rg.opsOf Try.f4 10) a b' → Below w9.heap.size w9 w' → Rg.out (Rg.opsOf Try.f4 10) b' 4 = .bool false → Q .normal b' w') :
    (Code.region 10 (Rg.opsOf Try.f4 10) true).wp Try.prog Q a w9 := by
  refine Rg.region_dead (by kernel_rfl) (fun w' => Below w9.heap.size w9 w') (FX10LMe AB XB ag a2 cg c2 l) (fun _ => none) (by rw [ha, sizeX10LMe]; kernel_rfl) (st_drew (Below.refl _ _)) ?_ ?_
  case refine_2 =>
    intro b' w' hf hI hA
    rw [sizeX10LMe] at hA
    exact hend b' w' hf hI (hA 4 (by decide) rfl)
  case refine_1 =>
    clear hend
    have HS : ∀ {w w' : World}, Below w.heap.size w w' → ∀ k9 y9, FX10LMe AB XB ag a2 cg c2 l k9 y9 w → FX10LMe AB XB ag a2 cg c2 l k9 y9 w' := fun hb k9 y9 h => by
      unfold FX10LMe at *
      split at h <;> first | exact h | (obtain ⟨a5, c5, h1, h2⟩ := h; exact ⟨a5, c5, h1, h2.below hb⟩)
    intro i' hi'
    rw [sizeX10LMe] at hi'
    rcases (show i' = 0 ∨ i' = 1 ∨ i' = 2 ∨ i' = 3 ∨ i' = 4 by omega) with rfl | rfl | rfl | rfl | rfl
    · intro bb w' hf hI hA
      clear hi'
      have q5 := hf.kept (s := 5) (by rw [sizeX10LMe]; kernel_rfl) k5
      have e0 := (hX2.below hI).cell 0
      clear hA HS hA2 hX2 r1 s1
      exact Rg.op_value (o := ⟨some 22, Op.load 42 (Operand.tmp 5), _, _, _, _⟩) (x := .agg #[.slice a2 l.length c2]) rfl rfl (by simp only [execOp]; go_simp) ⟨_, rfl, (fun h => by cases h), rfl, hI, fun _ _ _ h => h⟩
    · intro bb w' hf hI hA
      clear hi'
      have q1 := hf.kept (s := 1) (by rw [sizeX10LMe]; kernel_rfl) k1
      have e0 := (hA2.below hI).cell 0
      clear hA HS hA2 hX2 r1 s1
      exact Rg.op_value (o := ⟨some 23, Op.load 37 (Operand.tmp 1), _, _, _, _⟩) (x := .agg #[.slice ag l.length cg]) rfl rfl (by simp only [execOp]; go_simp) ⟨_, rfl, (fun h => by cases h), rfl, hI, fun _ _ _ h => h⟩
    · intro bb w' hf hI hA
      clear hi'
      have q23 : bb.tmps[23]? = some _ := hf.tmp (k := 1) rfl (by rw [ha]; decide) (hA 1 (by kernel_rfl) (.inl rfl))
      refine Rg.op_call (o := ⟨some 24, Op.call { callee := Callee.value (Operand.func 14), args := #[(Operand.tmp 23)], argTypes := _ }, _, _, _, _⟩) rfl rfl (by clear hA HS hA2 hX2 r1 s1; simp only [execOp, resolve]; go_simp) (tomess_any _ _ _ l w' (r1.below hI) lG lC) ?_
      rintro e w2 ⟨rfl, o1, hb2⟩
      exact ⟨_, rfl, _, rfl, (fun h => by cases h), ⟨_, _, rfl, o1.drw _ (Nat.le_refl _)⟩, ontoA hI hb2 hI.size, fun k9 y9 _ h => HS hb2 k9 y9 h⟩
    · intro bb w' hf hI hA
      clear hi'
      have q22 : bb.tmps[22]? = some _ := hf.tmp (k := 0) rfl (by rw [ha]; decide) (hA 0 (by kernel_rfl) (.inl rfl))
      obtain ⟨a5, c5, hv, o1⟩ := hA 2 (by kernel_rfl) (.inl rfl)
      have q24 : bb.tmps[24]? = some _ := hf.tmp (k := 2) rfl (by rw [ha]; decide) hv
      refine Rg.op_call (o := ⟨some 25, Op.call { callee := Callee.value (Operand.func 16), args := #[(Operand.tmp 22), (Operand.tmp 24)], argTypes := _ }, _, _, _, _⟩) rfl rfl (by clear hA HS hA2 hX2 r1 s1 hv o1; simp only [execOp, resolve]; go_simp) (eqmess_any _ _ _ _ _ _ l w' (s1.below hI) o1 lG (fun x hx => (lC x hx).2.1)) ?_
      rintro e w2 ⟨rfl, hb2⟩
      exact ⟨_, rfl, _, rfl, (fun h => by cases h), rfl, ontoA hI hb2 hI.size, fun k9 y9 _ h => HS hb2 k9 y9 h⟩
    · intro bb w' hf hI hA
      clear hi'
      have q25 : bb.tmps[25]? = some _ := hf.tmp (k := 3) rfl (by rw [ha]; decide) (hA 3 (by kernel_rfl) (.inl rfl))
      clear hA HS hA2 hX2 r1 s1
      exact Rg.op_value (o := ⟨some 26, Op.unOp UnOp.not 4 (Operand.tmp 25), _, _, _, _⟩) (x := .bool false) rfl rfl (by simp only [execOp]; go_simp) ⟨_, rfl, (fun h => by cases h), rfl, hI, fun _ _ _ h => h⟩

theorem dX10LMe_0 : Rg.dstAt (Rg.opsOf Try.f4 10) 0 = some 22 := by kernel_rfl
theorem dX10LMe_1 : Rg.dstAt (Rg.opsOf Try.f4 10) 1 = some 23 := by kernel_rfl
theorem dX10LMe_2 : Rg.dstAt (Rg.opsOf Try.f4 10) 2 = some 24 := by kernel_rfl
theorem dX10LMe_3 : Rg.dstAt (Rg.opsOf Try.f4 10) 3 = some 25 := by kernel_rfl
theorem dX10LMe_4 : Rg.dstAt (Rg.opsOf Try.f4 10) 4 = some 26 := by kernel_rfl
theorem layX10LMe {a b : Act} (hf : Rg.Fr (Rg.opsOf Try.f4 10) a b) : b = (((((a.put (some 22) (Rg.out (Rg.opsOf Try.f4 10) b 0)).put (some 23) (Rg.out (Rg.opsOf Try.f4 10) b 1)).put (some 24) (Rg.out (Rg.opsOf Try.f4 10) b 2)).put (some 25) (Rg.out (Rg.opsOf Try.f4 10) b 3)).put (some 26) (Rg.out (Rg.opsOf Try.f4 10) b 4)) := by
  have h := hf.chain
  rw [sizeX10LMe, show List.range 5 = [0, 1, 2, 3, 4] from by decide] at h
  simp only [List.foldl_cons, List.foldl_nil, dX10LMe_0, dX10LMe_1, dX10LMe_2, dX10LMe_3, dX10LMe_4] at h
  exact h

set_option maxRecDepth 20000 in
set_option maxHeartbeats 4000000 in
theorem walk (ag : Option Addr) (cg : Nat) (l : List Pt) (w : World) (h1 : PRw w (.slice ag l.length cg) l) (m1 : l.length ≤ maxLen) (m2 : ∀ x ∈ l, PBd x) :
    Calls Try.prog 4 #[.agg #[.slice ag l.length cg]] w fun e w' => e = .returned (.bool true) ∧ Below w.heap.size w w' := by
  have hb0 : Below w.heap.size w (w.alloc (.cells #[.slice ag l.length cg] 37)) := (Below.refl _ _).alloc (Nat.le_refl _) _
  have HP := hidden (PB.new w #[.slice ag l.length cg] 37)
  have HO := hidden (h1.below hb0)
  have HB := hidden hb0
  have HS := hidden (fun W hW => szmess_any ag l.length cg l 1048576 W hW m1 m2 (by omega) (by omega))
  clear h1 hb0 m2
  go_enter Try.func4, Try.ntmps4
  go_upto_region 1 with fail
  generalize w.alloc (.cells #[.slice ag l.length cg] 37) = wA at *
  generalize hAB : w.heap.size = AB at HP ⊢
  have p0 : wA.cell? ⟨AB, 0, none⟩ = some (.slice ag l.length cg) := HP.out.cell 0
  go_wp2_with fail
  refine (HS.out _ HO.out).mono ?_
  rintro e w1 ⟨q, rfl, hr, hb1⟩
  clear HS p0
  rcases hr with rfl | ⟨hr0, -, lG, lC0⟩
  · go_wp2_with fail
    go_ret
    exact ⟨rfl, ontoA HB.out hb1 HB.out.size⟩
  have hr2 : ¬ q < 0 := by omega
  have LC := hidden lC0
  have HT := hidden (fun W h1 => tomess_any ag l.length cg l W h1 lG lC0)
  have HSP := hidden (fun a n c W h1 => smess_any a n c l W h1 lG lC0)
  have HIM := hidden (fun a n c W h1 => imess_any a n c l W h1 lG lC0)
  generalize messB l = T at *
  have K1 := hidden hb1
  clear hb1 lC0
  have p0 : w1.cell? ⟨AB, 0, none⟩ = some (.slice ag l.length cg) := (HP.out.below K1.out).cell 0
  go_wp2_with fail
  refine (HT.out _ (HO.out.below K1.out)).mono ?_
  rintro e w2 ⟨rfl, o2, hb2⟩
  have K2 := hidden (K1.out.trans (hb2.mono K1.out.size))
  have R2 := hidden (o2.drw _ (Nat.le_refl _))
  generalize w1.heap.size + 1 + 1 + 1 = G2 at *
  clear o2 hb2 K1 p0
  go_wp2_with fail
  refine (HSP.out _ _ _ _ R2.out).mono ?_
  rintro e w3 ⟨rfl, hb3⟩
  have K3 := hidden (K2.out.trans (hb3.mono K2.out.size))
  clear R2 hb3 K2
  have p0 : w3.cell? ⟨AB, 0, none⟩ = some (.slice ag l.length cg) := (HP.out.below K3.out).cell 0
  go_wp2_with fail
  refine (HT.out _ (HO.out.below K3.out)).mono ?_
  rintro e w4 ⟨rfl, o4, hb4⟩
  have K4 := hidden (K3.out.trans (hb4.mono K3.out.size))
  have o4r := o4.drw _ (Nat.le_refl _)
  generalize w3.heap.size + 1 + 1 + 1 = G4 at *
  clear hb4 K3 p0 o4
  go_upto_region 7 with fail
  have PX := PB.new w4 #[.slice (some ⟨G4, 0, none⟩) l.length l.length] 42
  have bx : Below w4.heap.size w4 (w4.alloc (.cells #[.slice (some ⟨G4, 0, none⟩) l.length l.length] 42)) := (Below.refl _ _).alloc (Nat.le_refl _) _
  have R4 := hidden (o4r.below bx)
  have K5 := hidden (K4.out.trans (bx.mono K4.out.size))
  clear o4r bx K4
  generalize w4.alloc (.cells #[.slice (some ⟨G4, 0, none⟩) l.length l.length] 42) = w5 at *
  generalize w4.heap.size = XB at *
  have x0 : w5.cell? ⟨XB, 0, none⟩ = some (.slice (some ⟨G4, 0, none⟩) l.length l.length) := PX.cell 0
  go_wp2_with fail
  refine (HIM.out _ _ _ _ R4.out).mono ?_
  rintro e w6 ⟨rfl, hb6⟩
  have K6 := hidden (K5.out.trans (hb6.mono K5.out.size))
  have PX6 := PX.below hb6
  have R46 := hidden (R4.out.below hb6)
  clear hb6 K5 PX R4 x0
  cases T
  all_goals
    go_upto_region 10 with fail
    refine regX10LMe rfl rfl rfl (HP.out.below K6.out) PX6 (HO.out.below K6.out) R46.out lG LC.out ?_
    intro b' w7 hf hb7 hv
    rw [layX10LMe hf, hv]
    clear hv hf
    generalize Rg.out (Rg.opsOf Try.f4 10) b' 0 = y0
    generalize Rg.out (Rg.opsOf Try.f4 10) b' 1 = y1
    generalize Rg.out (Rg.opsOf Try.f4 10) b' 2 = y2
    generalize Rg.out (Rg.opsOf Try.f4 10) b' 3 = y3
    have K7 := hidden (K6.out.trans (hb7.mono K6.out.size))
    clear hb7
    go_frame
    go_wp2_with fail
    go_ret
    exact ⟨rfl, ontoA HB.out K7.out HB.out.size⟩

set_option maxRecDepth 100000 in
theorem lifted (os : Os) (started : os.Started) (H : Type) (enc : TypeId × Value → H) :
    ReturnsInHanded {} Try.checked os 4 .any (Rows.fnExactMessageOkSpec.pre6 enc Try.prog Try.f4 Rows.fnExactMessageOkRow.domain false) (Rows.fnExactMessageOkSpec.post enc Try.prog Try.f4 false true false false) := by
  refine returnsInHanded_of_change (C := Try.checked) own started (by kernel_rfl) Try.func4
    (ChangeSpec.witness6 (enc := enc) (C := Try.checked) false ⟨#[], #[.agg #[.slice none 0 0]], []⟩ 8 (by kernel_rfl) (by kernel_rfl) (by kernel_rfl) (by kernel_rfl)) ?_
  intro W base args ds gs before hval0 hW hcnd _
  have hval : ∀ (j : Nat) t v, Try.f4.params[j]? = some t → args[j]? = some v → Value.okWide Try.prog W .any base t v := hval0
  have hW' := hW
  obtain ⟨p, q, hA0, hV, rfl, hfz, hnd⟩ := hW
  have hA : DataW.TrodAll enc Try.prog W 0 (fun _ => true) true Try.f4.params.toList args.toList ds p := hA0
  rw [Try.params4] at hA hval
  obtain ⟨v0, vs0, d0, ds0, p0, q0, hargs, rfl, rfl, h0, r0⟩ := trodAll_cons hA
  obtain ⟨rfl, rfl, rfl⟩ := trodAll_nil r0
  obtain rfl : args = #[v0] := by cases args; simp_all
  obtain ⟨rfl, rfl⟩ := trodVars_none hV
  have k0 := h0
  have lt0 : ∀ x ∈ p0, x.block < W.heap.size := by obtain ⟨m, hm⟩ := k0; exact DataW.trod_lt m _ _ _ hm
  obtain ⟨ag, nn, cg, l, rfl, hm, hw1, hw2⟩ := mess_of_read (hval 0 37 v0 rfl rfl) h0
  obtain rfl := hw1.len
  clear hA0 hval0
  refine (walk ag cg l W hw1 hm hw2).mono fun e W' ⟨he, bel⟩ => ?_
  subst he
  exact ⟨_, rfl, _, _, _, [], _, [], hW', trodAll_mk1 (shut_bool Try.underlying4 _), (trodAll_cons_mk (Below.trod laidOut (by kernel_rfl) (of_decide_eq_true (by kernel_rfl)) k0 bel lt0) trodAll_mk0), rfl, bel.frame _, fun h => by cases h⟩

theorem over : Rows.fnExactMessageOkRow.holds Try.pinned (OpenSpec.ofChange Rows.fnExactMessageOkSpec) :=
  OpenClaim.holds_of_wide 4 Try.f4 rfl rfl rfl rfl rfl rfl rfl ⟨rfl, rfl, rfl, rfl, rfl⟩ rfl rfl rfl rfl rfl (by kernel_rfl) Try.func4 (by kernel_rfl)
    (of_decide_eq_true (by kernel_rfl)) (by unfold Func.isWrapper; first | (rw [if_pos (by decide +kernel)]; kernel_rfl) | (rw [if_neg (by decide +kernel)]; exact ⟨rfl, rfl⟩))
    (fun os started H enc _ => lifted os started H enc)
end fnExactMessageOk
theorem fnExactMessageOk_holds : Rows.FnExactMessageOkSaid := fnExactMessageOk.over
end Go.Proofs.Ytbabknhccapaoaa
