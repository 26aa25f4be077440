/-
  Proved: for every house and every move, the program's HouseDo answers as the specification's, writes into no argument and keeps none, and its answer is its own (FnExactHouseDo returns true). No conditions.
-/
import Derived.Test.YtpdlkkbnckjibamHh
import Derived.Test.YtpdlkkbnckjibamIp
namespace Go.Proofs.Ytpdlkkbnckjibam
open Go.RowKit Hm

namespace fnExactHouseDo
open Go.ChangeShapes Go.WideShapes Go.ChangeAt Go.Joins
set_option linter.unusedVariables false

theorem own : ownKnob Try.prog.godebug = none := by kernel_rfl
theorem laidOut : laidOutB Try.prog = true := by kernel_rfl
theorem ido2 (ao ao2 : Option Addr) (n cap m cap2 : Nat) (B : List Bd) (S : List St) (mv : Mv) (w : World) (h : HRw w (.slice ao n cap) (.slice ao2 m cap2) B S) :
    Calls Try.prog 13 #[.agg #[.slice ao n cap, .slice ao2 m cap2], aM mv] w fun e w' => ∃ a1 c1 a2 c2, e = .returned (.tuple #[.agg #[.slice a1 (doB B S).length c1, .slice a2 (doS B S mv).length c2], .int .i64 (doC B S mv)]) ∧ HOwn w' w.heap.size (.slice a1 (doB B S).length c1) (.slice a2 (doS B S mv).length c2) (doB B S) (doS B S mv) ∧ Below w.heap.size w w' := by
  refine (ido_any ao ao2 n cap m cap2 B S mv w h).mono ?_
  rintro e w' ⟨b1, b2, b3, s1, s2, s3, rfl, hN, hb⟩
  obtain ⟨a1, c1, a2, c2, e1, e2⟩ := hN.form
  rw [e1, e2] at hN ⊢
  exact ⟨a1, c1, a2, c2, rfl, hN.own, hb⟩
theorem sdo2 (ao ao2 : Option Addr) (n cap m cap2 : Nat) (B : List Bd) (S : List St) (mv : Mv) (w : World) (h : HRw w (.slice ao n cap) (.slice ao2 m cap2) B S) :
    Calls Try.prog 10 #[.agg #[.slice ao n cap, .slice ao2 m cap2], aM mv] w fun e w' => ∃ a1 c1 a2 c2, e = .returned (.tuple #[.agg #[.slice a1 (doB B S).length c1, .slice a2 (doS B S mv).length c2], .int .i64 (doC B S mv)]) ∧ HOwn w' w.heap.size (.slice a1 (doB B S).length c1) (.slice a2 (doS B S mv).length c2) (doB B S) (doS B S mv) ∧ Below w.heap.size w w' := by
  refine (sdo_any ao ao2 n cap m cap2 B S mv w h (fun W' hW' => sok_any ao ao2 n cap m cap2 B S W' hW')).mono ?_
  rintro e w' ⟨b1, b2, b3, s1, s2, s3, rfl, hN, hb⟩
  obtain ⟨a1, c1, a2, c2, e1, e2⟩ := hN.form
  rw [e1, e2] at hN ⊢
  exact ⟨a1, c1, a2, c2, rfl, hN.own, hb⟩
/-- A house that lies in a box, of its own from b on. -/
structure Got (b : Nat) (w1 wx : World) (o : Nat) (vb vs : Value) (B : List Bd) (S : List St) : Prop where
  lo : w1.heap.size ≤ o
  lt : o < wx.heap.size
  c0 : wx.cell? ⟨o, 0, none⟩ = some vb
  c1 : wx.cell? ⟨o, 1, none⟩ = some vs
  own : HOwn wx b vb vs B S
  bel : Below w1.heap.size w1 wx
  ne : ∀ j, mayH vb vs B S j → j ≠ o ∧ b ≤ j ∧ j < wx.heap.size
theorem Got.below {b o : Nat} {w1 wx wy : World} {vb vs : Value} {B : List Bd} {S : List St} (h : Got b w1 wx o vb vs B S) (hb : Below wx.heap.size wx wy) : Got b w1 wy o vb vs B S :=
  ⟨h.lo, Nat.lt_of_lt_of_le h.lt hb.size, (hb.cell (p := ⟨o, 0, none⟩) h.lt).trans h.c0, (hb.cell (p := ⟨o, 1, none⟩) h.lt).trans h.c1, h.own.below hb, onto h.bel hb, fun j hj => ⟨(h.ne j hj).1, (h.ne j hj).2.1, Nat.lt_of_lt_of_le (h.ne j hj).2.2 hb.size⟩⟩
theorem got_a {b : Nat} {w1 wD : World} {vb vs : Value} {B : List Bd} {S : List St} (own : HOwn wD b vb vs B S) (hb : w1.heap.size ≤ b) (bel : Below w1.heap.size w1 wD) : Got w1.heap.size w1 (wD.alloc (.cells #[vb, vs] 32)) wD.heap.size vb vs B S :=
  ⟨bel.size, by simp, by simp [go_sem], by simp [go_sem], (own.base_le hb).below ((Below.refl _ _).alloc (Nat.le_refl _) _), bel.alloc bel.size _, fun j hj => by have := mayH_in own hj; simp; omega⟩
theorem got_b {b o : Nat} {w1 wD : World} {vb vs : Value} {B : List Bd} {S : List St} {u0 u1 : Value} (own : HOwn wD b vb vs B S) (hb : w1.heap.size ≤ b) (bel : Below w1.heap.size w1 wD) (lo : w1.heap.size ≤ o) (ho : o < b) (hlt : o < wD.heap.size) (e0 : wD.cell? ⟨o, 0, none⟩ = some u0) (e1 : wD.cell? ⟨o, 1, none⟩ = some u1) :
    Got w1.heap.size w1 ((wD.setCell ⟨o, 0, none⟩ vb).setCell ⟨o, 1, none⟩ vs) o vb vs B S :=
  ⟨lo, by simpa [World.setCell] using hlt, by simp [go_sem, e0], by simp [go_sem, e1], HOwn.base_le ⟨(own.1.setCell (p := ⟨o, 0, none⟩) ho _).setCell (p := ⟨o, 1, none⟩) ho _, (own.2.1.setCell (p := ⟨o, 0, none⟩) ho _).setCell (p := ⟨o, 1, none⟩) ho _, own.2.2⟩ hb, (bel.setCell (p := ⟨o, 0, none⟩) lo _).setCell (p := ⟨o, 1, none⟩) lo _, fun j hj => by have := mayH_in own hj; simp; omega⟩

theorem Got.back {b o : Nat} {w0 w1 wx : World} {vb vs : Value} {B : List Bd} {S : List St} (h : Got b w1 wx o vb vs B S) (hb : Below w0.heap.size w0 w1) : Got b w0 wx o vb vs B S := ⟨Nat.le_trans hb.size h.lo, h.lt, h.c0, h.c1, h.own, onto hb h.bel, h.ne⟩
theorem Got.turn {b o : Nat} {w1 wx wy : World} {vb vs : Value} {B : List Bd} {S : List St} {may : Nat → Prop} (h : Got b w1 wx o vb vs B S) (ht : Turn wx wy may) (hb : ∀ j, b ≤ j → ¬ may j) (ho : ¬ may o) (hw : ∀ j, j < w1.heap.size → ¬ may j) : Got b w1 wy o vb vs B S :=
  ⟨h.lo, Nat.lt_of_lt_of_le h.lt ht.size, (World.cell?_of_block (ht.block o h.lt ho)).trans h.c0, (World.cell?_of_block (ht.block o h.lt ho)).trans h.c1, ⟨ht.own h.own.1 hb, ht.own h.own.2.1 hb, h.own.2.2⟩, ht.below h.bel h.bel.size hw, fun j hj => ⟨(h.ne j hj).1, (h.ne j hj).2.1, Nat.lt_of_lt_of_le (h.ne j hj).2.2 ht.size⟩⟩

set_option maxRecDepth 20000 in
set_option maxHeartbeats 8000000 in
theorem walk (ao ao2 : Option Addr) (n cap m cap2 : Nat) (B : List Bd) (S : List St) (mv : Mv) (w : World) (h : HRw w (.slice ao n cap) (.slice ao2 m cap2) B S) (hn : n ≤ maxLen) (hm : m ≤ maxLen) :
    Calls Try.prog 3 #[.agg #[.slice ao n cap, .slice ao2 m cap2], aM mv] w fun e w' => e = .returned (.bool true) ∧ Below w.heap.size w w' := by
  have hS := fun W => szhouse_any ao ao2 n cap m cap2 W (by unfold maxLen at hn; omega) (by unfold maxLen at hm; omega)
  have HH := hidden h
  have E1 := hidden h.1.len
  have E2 := hidden h.2.len
  clear h
  have HMV := hidden (tomove_any mv)
  have HSD := hidden (fun a1 c1 a2 c2 W hW => sdo2 a1 a2 B.length c1 S.length c2 B S mv W hW)
  have HID := hidden (fun a1 c1 a2 c2 W hW => ido2 a1 a2 B.length c1 S.length c2 B S mv W hW)
  have LB : (doB B S).length ≤ 1048576 := Nat.le_trans (doB_len B S) (by omega)
  have LS : (doS B S mv).length ≤ 1048576 := doS_len B S mv
  unfold aM at *
  generalize doB B S = DB at *
  generalize doS B S mv = DS at *
  generalize doC B S mv = C at *
  have hb0 : Below w.heap.size w ((w.alloc (.cells #[.slice ao n cap, .slice ao2 m cap2] 25)).alloc (.cells #[.int .i64 mv.kind, .int .i64 mv.person, .int .i64 mv.sex, .int .i64 mv.need, .int .i64 mv.bed, .int .i64 mv.time] 27)) := ((Below.refl _ _).alloc (Nat.le_refl _) _).alloc (by first | omega | (simp; done) | (simp; omega)) _
  have P0 : Pa w ((w.alloc (.cells #[.slice ao n cap, .slice ao2 m cap2] 25)).alloc (.cells #[.int .i64 mv.kind, .int .i64 mv.person, .int .i64 mv.sex, .int .i64 mv.need, .int .i64 mv.bed, .int .i64 mv.time] 27)) (.slice ao n cap) (.slice ao2 m cap2) mv := by constructor <;> simp [go_sem]
  go_enter Try.func3, Try.ntmps3
  go_wp2_with fail
  refine (hS _).mono ?_
  rintro e w1 ⟨⟨r, rfl, hr⟩, hb1⟩
  have b1 := onto hb0 hb1
  rcases hr with hr | ⟨hr, l1, l2⟩
  · go_wp2_with fail
    go_ret
    exact ⟨rfl, b1⟩
  have hr' : ¬ r < 0 := by omega
  have L1 : B.length ≤ 1048576 := by have := E1.out; omega
  have L2 : S.length ≤ 1048576 := by have := E2.out; omega
  have HT := hidden (fun W (hW : Below w.heap.size w W) => tohouse_any ao ao2 n cap m cap2 B S W (HH.out.below hW) L1 L2)
  have P1 := P0.below hb1 (by simp)
  have z1 := hb1.size
  simp only [World.size_alloc] at z1
  have bS := b1
  have ⟨q1h0, q1h1, q1m0, q1m1, q1m2, q1m3, q1m4, q1m5⟩ := P1
  clear hS hb1 hb0 P0 b1
  obtain ⟨fS0, -⟩ := far (show w.heap.size ≠ w1.heap.size by omega)
  obtain ⟨fS1, -⟩ := far (show w.heap.size + 1 ≠ w1.heap.size by omega)
  go_upto_region 5 with fail
  go_cut [6, 7] (fun p c wx => ∃ o a1 c1 a2 c2, p = .pointer (some ⟨o, 0, none⟩) ∧ c = .int .i64 C ∧ Got w1.heap.size w1 wx o (.slice a1 DB.length c1) (.slice a2 DS.length c2) DB DS)
  case first =>
    go_region_held3 (fun w' => w'.cell? ⟨w.heap.size, 0, none⟩ = some (.slice ao n cap) ∧ w'.cell? ⟨w.heap.size, 1, none⟩ = some (.slice ao2 m cap2) ∧ w'.cell? ⟨w.heap.size + 1, 0, none⟩ = some (.int .i64 mv.kind) ∧ w'.cell? ⟨w.heap.size + 1, 1, none⟩ = some (.int .i64 mv.person) ∧ w'.cell? ⟨w.heap.size + 1, 2, none⟩ = some (.int .i64 mv.sex) ∧ w'.cell? ⟨w.heap.size + 1, 3, none⟩ = some (.int .i64 mv.need) ∧ w'.cell? ⟨w.heap.size + 1, 4, none⟩ = some (.int .i64 mv.bed) ∧ w'.cell? ⟨w.heap.size + 1, 5, none⟩ = some (.int .i64 mv.time)) (go_keep) (first | (go_at_call 11; refine (HT.out _ (by repeat (first | exact Below.refl _ _ | assumption | refine st_drew ?_ | refine st_drewN ?_ _ | refine Below.setCell ?_ (by first | omega | (simp; done) | (simp; omega)) _ | refine Below.alloc ?_ (by first | omega | (simp; done) | (simp; omega)) _))).mono ?_; rintro e wH ⟨h1, d1, h2, d2, rfl, hoH, hbH⟩; have zH := hbH.size; (try simp only [World.size_alloc, World.size_drew] at zH); obtain ⟨hcH, hfH⟩ := bcell hbH; (try have tH0 : w1.heap.size < wH.heap.size := by omega); (try have tH2 : wM.heap.size < wH.heap.size := by omega); have bsH := onto (show Below w1.heap.size w1 _ from by repeat (first | exact Below.refl _ _ | assumption | refine st_drew ?_ | refine st_drewN ?_ _ | refine Below.setCell ?_ (by first | omega | (simp; done) | (simp; omega)) _ | refine Below.alloc ?_ (by first | omega | (simp; done) | (simp; omega)) _)) hbH; have bwH := bS.trans (bsH.mono bS.size); have PH := P1.below bsH (by omega); have ⟨qHh0, qHh1, qHm0, qHm1, qHm2, qHm3, qHm4, qHm5⟩ := PH; have yH := bsH.size; obtain ⟨fH0, -⟩ := far (show w.heap.size ≠ wH.heap.size by omega); obtain ⟨fH1, -⟩ := far (show w.heap.size + 1 ≠ wH.heap.size by omega)) | (go_at_call 12; refine (HMV.out _).mono ?_; rintro e wM ⟨rfl, hbM⟩; have roM := hidden (hoH.row.below (onto (show Below wH.heap.size wH _ from by repeat (first | exact Below.refl _ _ | refine st_drew ?_ | refine st_drewN ?_ _ | refine Below.setCell ?_ (by first | omega | (simp; done) | (simp; omega)) _ | refine Below.alloc ?_ (by first | omega | (simp; done) | (simp; omega)) _)) hbM)); have zM := hbM.size; (try simp only [World.size_alloc] at zM); obtain ⟨hcM, hfM⟩ := bcell hbM; (try have tM0 : w1.heap.size < wM.heap.size := by omega); (try have tM1 : wH.heap.size < wM.heap.size := by omega); have bsM := onto (show Below w1.heap.size w1 _ from by repeat (first | exact Below.refl _ _ | assumption | refine st_drew ?_ | refine st_drewN ?_ _ | refine Below.setCell ?_ (by first | omega | (simp; done) | (simp; omega)) _ | refine Below.alloc ?_ (by first | omega | (simp; done) | (simp; omega)) _)) hbM; have PM := P1.below bsM (by omega); have ⟨qMh0, qMh1, qMm0, qMm1, qMm2, qMm3, qMm4, qMm5⟩ := PM; have yM := bsM.size; obtain ⟨fM0, -⟩ := far (show w.heap.size ≠ wM.heap.size by omega); obtain ⟨fM1, -⟩ := far (show w.heap.size + 1 ≠ wM.heap.size by omega)) | (go_at_call 12; refine (HMV.out _).mono ?_; rintro e wM ⟨rfl, hbM⟩; have zM := hbM.size; (try simp only [World.size_alloc] at zM); obtain ⟨hcM, hfM⟩ := bcell hbM; (try have tM0 : w1.heap.size < wM.heap.size := by omega); (try have tM1 : wH.heap.size < wM.heap.size := by omega); have bsM := onto (show Below w1.heap.size w1 _ from by repeat (first | exact Below.refl _ _ | assumption | refine st_drew ?_ | refine st_drewN ?_ _ | refine Below.setCell ?_ (by first | omega | (simp; done) | (simp; omega)) _ | refine Below.alloc ?_ (by first | omega | (simp; done) | (simp; omega)) _)) hbM; have bwM := bS.trans (bsM.mono bS.size); have PM := P1.below bsM (by omega); have ⟨qMh0, qMh1, qMm0, qMm1, qMm2, qMm3, qMm4, qMm5⟩ := PM; have yM := bsM.size; obtain ⟨fM0, -⟩ := far (show w.heap.size ≠ wM.heap.size by omega); obtain ⟨fM1, -⟩ := far (show w.heap.size + 1 ≠ wM.heap.size by omega)) | (go_at_call 10; refine (HSD.out _ _ _ _ _ (roM.out.below (by repeat (first | exact Below.refl _ _ | refine st_drew ?_ | refine st_drewN ?_ _ | refine Below.setCell ?_ (by first | omega | (simp; done) | (simp; omega)) _ | refine Below.alloc ?_ (by first | omega | (simp; done) | (simp; omega)) _)))).mono ?_; rintro e wD ⟨a1, c1, a2, c2, rfl, hND, hbD⟩; have zD := hbD.size; (try simp only [World.size_alloc] at zD); obtain ⟨hcD, hfD⟩ := bcell hbD; (try have tD0 : w1.heap.size < wD.heap.size := by omega); (try have tD1 : wH.heap.size < wD.heap.size := by omega); (try have tD2 : wM.heap.size < wD.heap.size := by omega); have bsD := onto (show Below w1.heap.size w1 _ from by repeat (first | exact Below.refl _ _ | assumption | refine st_drew ?_ | refine st_drewN ?_ _ | refine Below.setCell ?_ (by first | omega | (simp; done) | (simp; omega)) _ | refine Below.alloc ?_ (by first | omega | (simp; done) | (simp; omega)) _)) hbD; have PD := P1.below bsD (by omega); have ⟨qDh0, qDh1, qDm0, qDm1, qDm2, qDm3, qDm4, qDm5⟩ := PD; have yD := bsD.size; obtain ⟨fD0, -⟩ := far (show w.heap.size ≠ wD.heap.size by omega); obtain ⟨fD1, -⟩ := far (show w.heap.size + 1 ≠ wD.heap.size by omega)) | (go_at_call 10; refine (HSD.out _ _ _ _ _ (hoH.row.below (by repeat (first | exact Below.refl _ _ | refine st_drew ?_ | refine st_drewN ?_ _ | refine Below.setCell ?_ (by first | omega | (simp; done) | (simp; omega)) _ | refine Below.alloc ?_ (by first | omega | (simp; done) | (simp; omega)) _)))).mono ?_; rintro e wD ⟨a1, c1, a2, c2, rfl, hND, hbD⟩; have zD := hbD.size; (try simp only [World.size_alloc] at zD); obtain ⟨hcD, hfD⟩ := bcell hbD; (try have tD0 : w1.heap.size < wD.heap.size := by omega); (try have tD1 : wH.heap.size < wD.heap.size := by omega); (try have tD2 : wM.heap.size < wD.heap.size := by omega); have bsD := onto (show Below w1.heap.size w1 _ from by repeat (first | exact Below.refl _ _ | assumption | refine st_drew ?_ | refine st_drewN ?_ _ | refine Below.setCell ?_ (by first | omega | (simp; done) | (simp; omega)) _ | refine Below.alloc ?_ (by first | omega | (simp; done) | (simp; omega)) _)) hbD; have PD := P1.below bsD (by omega); have ⟨qDh0, qDh1, qDm0, qDm1, qDm2, qDm3, qDm4, qDm5⟩ := PD; have yD := bsD.size; obtain ⟨fD0, -⟩ := far (show w.heap.size ≠ wD.heap.size by omega); obtain ⟨fD1, -⟩ := far (show w.heap.size + 1 ≠ wD.heap.size by omega)) | fail)
    all_goals go_wp2_with fail
    all_goals go_meet
    all_goals first
      | exact ⟨_, a1, c1, a2, c2, rfl, rfl, got_a hND (by first | omega | (simp; omega)) bsD⟩
      | exact ⟨wM.heap.size, a1, c1, a2, c2, rfl, rfl, got_b (u0 := .slice none 0 0) (u1 := .slice none 0 0) hND (by first | omega | (simp; omega)) bsD (by omega) (by simp) (by omega) (by rw [hcD _ _ (by simp)]; simp [go_sem]) (by rw [hcD _ _ (by simp)]; simp [go_sem])⟩
      | exact ⟨wH.heap.size, a1, c1, a2, c2, rfl, rfl, got_b (u0 := .slice none 0 0) (u1 := .slice none 0 0) hND (by first | omega | (simp; omega)) bsD (by omega) (by first | omega | (simp; omega)) (by omega) (by rw [hcD _ _ (by first | omega | (simp; omega)), hcM _ _ (by simp)]; simp [go_sem]) (by rw [hcD _ _ (by first | omega | (simp; omega)), hcM _ _ (by simp)]; simp [go_sem])⟩
      | exact ⟨w1.heap.size, a1, c1, a2, c2, rfl, rfl, got_b (u0 := .slice none 0 0) (u1 := .slice none 0 0) hND (by first | omega | (simp; omega)) bsD (by omega) (by first | omega | (simp; omega)) (by omega) (by rw [hcD _ _ (by first | omega | (simp; omega)), hcM _ _ (by first | omega | (simp; omega)), hcH _ _ (by simp)]; simp [go_sem]) (by rw [hcD _ _ (by first | omega | (simp; omega)), hcM _ _ (by first | omega | (simp; omega)), hcH _ _ (by simp)]; simp [go_sem])⟩
  case rest =>
    obtain ⟨o5, a1, c1, a2, c2, rfl, rfl, G5⟩ := hcut
    obtain ⟨w2, hw2⟩ : ∃ x, x = wc := ⟨_, rfl⟩
    subst hw2
    have bA2 := onto bS G5.bel
    have P2 := P1.below G5.bel (by omega)
    have y2 := G5.bel.size
    have ⟨q2h0, q2h1, q2m0, q2m1, q2m2, q2m3, q2m4, q2m5⟩ := P2
    clear HSD P1 bS
    go_wp2_with fail
    refine (HT.out _ bA2).mono ?_
    rintro e w3 ⟨x1, e1, x2, e2, rfl, ho3, hb3⟩
    have b2X : Below w2.heap.size w2 (w3.alloc (.cells #[.slice x1 B.length e1, .slice x2 S.length e2] 32)) := hb3.alloc hb3.size _
    have GX := got_a ho3 (Nat.le_refl _) hb3
    have HIN := hidden (fun j hj => mayH_in ho3 (j := j) hj)
    have G5X := G5.below b2X
    have P4 := P2.below b2X (by omega)
    have bA4 := onto bA2 b2X
    have y3 := hb3.size
    have y4 : w3.heap.size < (w3.alloc (.cells #[.slice x1 B.length e1, .slice x2 S.length e2] 32)).heap.size := by simp
    have gx0 := GX.c0
    have gx1 := GX.c1
    clear ho3 hb3
    generalize hWX : (w3.alloc (.cells #[.slice x1 B.length e1, .slice x2 S.length e2] 32)) = w4 at *
    have ⟨q4h0, q4h1, q4m0, q4m1, q4m2, q4m3, q4m4, q4m5⟩ := P4
    obtain ⟨fX0, -⟩ := far (show w3.heap.size ≠ w4.heap.size by omega)
    obtain ⟨fX1, -⟩ := far (show w.heap.size + 1 ≠ w4.heap.size by omega)
    go_upto_region 7 with fail
    go_cut [9, 10] (fun p c wx => ∃ o g1 d1 g2 d2, p = .pointer (some ⟨o, 0, none⟩) ∧ c = .int .i64 C ∧ Got w4.heap.size w4 wx o (.slice g1 DB.length d1) (.slice g2 DS.length d2) DB DS)
    case first =>
      go_region_held3 (fun w' => w'.cell? ⟨w3.heap.size, 0, none⟩ = some (.slice x1 B.length e1) ∧ w'.cell? ⟨w3.heap.size, 1, none⟩ = some (.slice x2 S.length e2) ∧ w'.cell? ⟨w.heap.size + 1, 0, none⟩ = some (.int .i64 mv.kind) ∧ w'.cell? ⟨w.heap.size + 1, 1, none⟩ = some (.int .i64 mv.person) ∧ w'.cell? ⟨w.heap.size + 1, 2, none⟩ = some (.int .i64 mv.sex) ∧ w'.cell? ⟨w.heap.size + 1, 3, none⟩ = some (.int .i64 mv.need) ∧ w'.cell? ⟨w.heap.size + 1, 4, none⟩ = some (.int .i64 mv.bed) ∧ w'.cell? ⟨w.heap.size + 1, 5, none⟩ = some (.int .i64 mv.time)) (go_keep) (first | (go_at_call 12; refine (HMV.out _).mono ?_; rintro e wM ⟨rfl, hbM⟩; have zM := hbM.size; (try simp only [World.size_alloc, World.size_drew] at zM); obtain ⟨hcM, hfM⟩ := bcell hbM; (try have tM0 : w4.heap.size < wM.heap.size := by omega); have bsM := onto (show Below w4.heap.size w4 _ from by repeat (first | exact Below.refl _ _ | assumption | refine st_drew ?_ | refine st_drewN ?_ _ | refine Below.setCell ?_ (by first | omega | (simp; done) | (simp; omega)) _ | refine Below.alloc ?_ (by first | omega | (simp; done) | (simp; omega)) _)) hbM; have PM := P4.below bsM (by omega); have ⟨qMh0, qMh1, qMm0, qMm1, qMm2, qMm3, qMm4, qMm5⟩ := PM; have yM := bsM.size; have GM := GX.below bsM; have gM0 := GM.c0; have gM1 := GM.c1; obtain ⟨fM0, -⟩ := far (show w3.heap.size ≠ wM.heap.size by omega); obtain ⟨fM1, -⟩ := far (show w.heap.size + 1 ≠ wM.heap.size by omega)) | (go_at_call 13; refine (HID.out _ _ _ _ _ (GM.own.row.below (by repeat (first | exact Below.refl _ _ | refine st_drew ?_ | refine st_drewN ?_ _ | refine Below.setCell ?_ (by first | omega | (simp; done) | (simp; omega)) _ | refine Below.alloc ?_ (by first | omega | (simp; done) | (simp; omega)) _)))).mono ?_; rintro e wD ⟨g1, d1, g2, d2, rfl, hND, hbD⟩; have zD := hbD.size; (try simp only [World.size_alloc] at zD); obtain ⟨hcD, hfD⟩ := bcell hbD; (try have tD0 : w4.heap.size < wD.heap.size := by omega); (try have tD1 : wM.heap.size < wD.heap.size := by omega); have bsD := onto (show Below w4.heap.size w4 _ from by repeat (first | exact Below.refl _ _ | assumption | refine st_drew ?_ | refine st_drewN ?_ _ | refine Below.setCell ?_ (by first | omega | (simp; done) | (simp; omega)) _ | refine Below.alloc ?_ (by first | omega | (simp; done) | (simp; omega)) _)) hbD; have PD := P4.below bsD (by omega); have ⟨qDh0, qDh1, qDm0, qDm1, qDm2, qDm3, qDm4, qDm5⟩ := PD; have yD := bsD.size; have GD := GX.below bsD; have gD0 := GD.c0; have gD1 := GD.c1; obtain ⟨fD0, -⟩ := far (show w3.heap.size ≠ wD.heap.size by omega); obtain ⟨fD1, -⟩ := far (show w.heap.size + 1 ≠ wD.heap.size by omega)) | fail)
      all_goals go_wp2_with fail
      all_goals go_meet
      all_goals first
        | exact ⟨_, g1, d1, g2, d2, rfl, rfl, got_a hND (by first | omega | (simp; omega)) bsD⟩
        | exact ⟨wM.heap.size, g1, d1, g2, d2, rfl, rfl, got_b (u0 := .slice none 0 0) (u1 := .slice none 0 0) hND (by first | omega | (simp; omega)) bsD (by omega) (by simp) (by omega) (by rw [hcD _ _ (by simp)]; simp [go_sem]) (by rw [hcD _ _ (by simp)]; simp [go_sem])⟩
        | exact ⟨w4.heap.size, g1, d1, g2, d2, rfl, rfl, got_b (u0 := .slice none 0 0) (u1 := .slice none 0 0) hND (by first | omega | (simp; omega)) bsD (by omega) (by first | omega | (simp; omega)) (by omega) (by rw [hcD _ _ (by first | omega | (simp; omega)), hcM _ _ (by simp)]; simp [go_sem]) (by rw [hcD _ _ (by first | omega | (simp; omega)), hcM _ _ (by simp)]; simp [go_sem])⟩
    case rest =>
      obtain ⟨o9, g1, d1, g2, d2, rfl, rfl, G9⟩ := hcut
      obtain ⟨w5, hw5⟩ : ∃ x, x = wc := ⟨_, rfl⟩
      subst hw5
      have lo9 := G9.lo
      have G9b := G9.back b2X
      have GX5 := GX.below G9.bel
      have G55 := G5X.below G9.bel
      have P5 := P4.below G9.bel (by omega)
      have bA5 := onto bA4 G9.bel
      have b25 := onto b2X G9.bel
      have y5 := G9.bel.size
      have gb0 := G9b.c0
      have gb1 := G9b.c1
      have ga0 := G55.c0
      have ga1 := G55.c1
      clear GX G5X P4 bA4 G9 hWX
      go_wp2_with fail
      refine (eqhouse_any g1 g2 a1 a2 DB.length d1 DS.length d2 DB.length c1 DS.length c2 DB DS _ G9b.own.row G55.own.row LB LS).mono ?_
      rintro e w6 ⟨rfl, hb6⟩
      have G9c := G9b.below hb6
      have GX6 := GX5.below hb6
      have P6 := P5.below hb6 (by omega)
      have bA6 := onto bA5 hb6
      have b26 := onto b25 hb6
      have y6 := hb6.size
      have g60 := GX6.c0
      have g61 := GX6.c1
      have ⟨q6h0, q6h1, q6m0, q6m1, q6m2, q6m3, q6m4, q6m5⟩ := P6
      clear G9b GX5 G55 P5 bA5 b25 gb0 gb1 ga0 ga1 hb6
      go_upto_region 10 with fail
      go_region_held3 (fun w' => w'.cell? ⟨w3.heap.size, 0, none⟩ = some (.slice x1 B.length e1) ∧ w'.cell? ⟨w3.heap.size, 1, none⟩ = some (.slice x2 S.length e2) ∧ w'.cell? ⟨w.heap.size, 0, none⟩ = some (.slice ao n cap) ∧ w'.cell? ⟨w.heap.size, 1, none⟩ = some (.slice ao2 m cap2)) (go_keep) (first | (go_at_call 11; refine (HT.out _ (by repeat (first | exact Below.refl _ _ | assumption | refine st_drew ?_ | refine st_drewN ?_ _ | refine Below.setCell ?_ (by first | omega | (simp; done) | (simp; omega)) _ | refine Below.alloc ?_ (by first | omega | (simp; done) | (simp; omega)) _))).mono ?_; rintro e w7 ⟨h1, k1, h2, k2, rfl, ho7, hb7⟩; have bs7 := onto (show Below w6.heap.size w6 _ from by repeat (first | exact Below.refl _ _ | assumption | refine st_drew ?_ | refine st_drewN ?_ _ | refine Below.setCell ?_ (by first | omega | (simp; done) | (simp; omega)) _ | refine Below.alloc ?_ (by first | omega | (simp; done) | (simp; omega)) _)) hb7; have G7 := GX6.below bs7; have g70 := G7.c0; have g71 := G7.c1; have P7 := P6.below bs7 (by omega); have ⟨q7h0, q7h1, q7m0, q7m1, q7m2, q7m3, q7m4, q7m5⟩ := P7) | (go_at_call 14; refine (eqhouse_any x1 x2 h1 h2 B.length e1 S.length e2 B.length k1 S.length k2 B S _ (G7.own.row.below (by repeat (first | exact Below.refl _ _ | refine st_drew ?_ | refine st_drewN ?_ _ | refine Below.setCell ?_ (by first | omega | (simp; done) | (simp; omega)) _ | refine Below.alloc ?_ (by first | omega | (simp; done) | (simp; omega)) _))) (ho7.row.below (by repeat (first | exact Below.refl _ _ | refine st_drew ?_ | refine st_drewN ?_ _ | refine Below.setCell ?_ (by first | omega | (simp; done) | (simp; omega)) _ | refine Below.alloc ?_ (by first | omega | (simp; done) | (simp; omega)) _))) L1 L2).mono ?_; rintro e w8 ⟨rfl, hb8⟩; have bs8 := onto (show Below w6.heap.size w6 _ from by repeat (first | exact Below.refl _ _ | assumption | refine st_drew ?_ | refine st_drewN ?_ _ | refine Below.setCell ?_ (by first | omega | (simp; done) | (simp; omega)) _ | refine Below.alloc ?_ (by first | omega | (simp; done) | (simp; omega)) _)) hb8; have G8 := GX6.below bs8; have g80 := G8.c0; have g81 := G8.c1; have P8 := P6.below bs8 (by omega); have ⟨q8h0, q8h1, q8m0, q8m1, q8m2, q8m3, q8m4, q8m5⟩ := P8) | fail)
      all_goals have G98 := G9c.below bs8
      all_goals have b28 := onto b26 bs8
      all_goals have lt8 := G98.lt
      all_goals go_wp2_with fail
      all_goals refine (markhouse_any x1 x2 e1 e2 B S w2.heap.size _ G8.own L1 L2).mono ?_
      all_goals rintro e w9 ⟨rfl, -, -, ht9⟩
      all_goals have G99 := G98.turn ht9 (fun j hj hq => by have := (HIN.out j hq).2; omega) (fun hq => by have := (HIN.out _ hq).2; omega) (fun j hj hq => by have := (HIN.out j hq).1; omega)
      all_goals have b29 := ht9.below b28 b28.size (fun j hj hq => by have := (HIN.out j hq).1; omega)
      all_goals have G59 := G5.below b29
      all_goals have gb0 := G99.c0
      all_goals have gb1 := G99.c1
      all_goals have ga0 := G59.c0
      all_goals have ga1 := G59.c1
      all_goals have n9 : ¬ (1 + 2 * (B.length : Int) + 6 * (S.length : Int)) < 0 := by omega
      all_goals clear ht9 G98 b28 G8 G9c
      all_goals go_wp2_with fail
      all_goals refine (eqhouse_any g1 g2 a1 a2 DB.length d1 DS.length d2 DB.length c1 DS.length c2 DB DS _ G99.own.row G59.own.row LB LS).mono ?_
      all_goals rintro e w10 ⟨rfl, hb10⟩
      all_goals have G9x := G99.below hb10
      all_goals have b210 := onto b29 hb10
      all_goals have gc0 := G9x.c0
      all_goals have gc1 := G9x.c1
      all_goals have lt10 := G9x.lt
      all_goals clear G99 G59 b29 gb0 gb1 ga0 ga1 hb10
      all_goals go_wp2_with fail
      all_goals refine (markhouse_any g1 g2 d1 d2 DB DS w4.heap.size _ G9x.own LB LS).mono ?_
      all_goals rintro e w11 ⟨rfl, hm1, hm2, ht11⟩
      all_goals have b211 := ht11.below b210 b210.size (fun j hj hq => by have := (G9x.ne j hq).2.1; omega)
      all_goals have r0 := (World.cell?_of_block (a := ⟨o9, 0, none⟩) (ht11.block o9 G9x.lt (fun hq => (G9x.ne _ hq).1 rfl))).trans gc0
      all_goals have r1 := (World.cell?_of_block (a := ⟨o9, 1, none⟩) (ht11.block o9 G9x.lt (fun hq => (G9x.ne _ hq).1 rfl))).trans gc1
      all_goals have lt11 := Nat.lt_of_lt_of_le lt10 ht11.size
      all_goals have M1 := hidden hm1
      all_goals have M2 := hidden hm2
      all_goals clear ht11 G9x b210 gc0 gc1 hm1 hm2
      all_goals go_wp2_with fail
      all_goals refine (heldhouse_any g1 g2 DB.length d1 DS.length d2 _ M1.out.row M2.out.row LB LS).mono ?_
      all_goals rintro e w12 ⟨rfl, hb12⟩
      all_goals have M3 := hidden (M1.out.below hb12)
      all_goals have M4 := hidden (M2.out.below hb12)
      all_goals have b212 := onto b211 hb12
      all_goals have P12 := P2.below b212 (by omega)
      all_goals have G512 := G5.below b212
      all_goals have bS := onto bA2 b212
      all_goals have y12 := b212.size
      all_goals have s0 := (hb12.cell (p := ⟨o9, 0, none⟩) lt11).trans r0
      all_goals have s1 := (hb12.cell (p := ⟨o9, 1, none⟩) lt11).trans r1
      all_goals have lt12 := Nat.lt_of_lt_of_le lt11 hb12.size
      all_goals have n12 : ¬ (1 + 2 * (DB.length : Int) + 6 * (DS.length : Int)) < 0 := by omega
      all_goals have ⟨q12h0, q12h1, q12m0, q12m1, q12m2, q12m3, q12m4, q12m5⟩ := P12
      all_goals obtain ⟨fS0, -⟩ := far (show w.heap.size ≠ w12.heap.size by omega)
      all_goals obtain ⟨fS1, -⟩ := far (show w.heap.size + 1 ≠ w12.heap.size by omega)
      all_goals clear b211 r0 r1 M1 M2 hb12
      go_upto_region 24 with fail
      go_cut [14, 15] (fun p c wx => ∃ o h1 k1 h2 k2, p = .pointer (some ⟨o, 0, none⟩) ∧ c = .int .i64 C ∧ Got w12.heap.size w12 wx o (.slice h1 DB.length k1) (.slice h2 DS.length k2) DB DS)
      case first =>
        go_region_held3 (fun w' => w'.cell? ⟨w.heap.size, 0, none⟩ = some (.slice ao n cap) ∧ w'.cell? ⟨w.heap.size, 1, none⟩ = some (.slice ao2 m cap2) ∧ w'.cell? ⟨w.heap.size + 1, 0, none⟩ = some (.int .i64 mv.kind) ∧ w'.cell? ⟨w.heap.size + 1, 1, none⟩ = some (.int .i64 mv.person) ∧ w'.cell? ⟨w.heap.size + 1, 2, none⟩ = some (.int .i64 mv.sex) ∧ w'.cell? ⟨w.heap.size + 1, 3, none⟩ = some (.int .i64 mv.need) ∧ w'.cell? ⟨w.heap.size + 1, 4, none⟩ = some (.int .i64 mv.bed) ∧ w'.cell? ⟨w.heap.size + 1, 5, none⟩ = some (.int .i64 mv.time)) (go_keep) (first | (go_at_call 11; refine (HT.out _ (by repeat (first | exact Below.refl _ _ | assumption | refine st_drew ?_ | refine st_drewN ?_ _ | refine Below.setCell ?_ (by first | omega | (simp; done) | (simp; omega)) _ | refine Below.alloc ?_ (by first | omega | (simp; done) | (simp; omega)) _))).mono ?_; rintro e wH ⟨h1, d1, h2, d2, rfl, hoH, hbH⟩; have zH := hbH.size; (try simp only [World.size_alloc, World.size_drew] at zH); obtain ⟨hcH, hfH⟩ := bcell hbH; (try have tH0 : w12.heap.size < wH.heap.size := by omega); (try have tH2 : wM.heap.size < wH.heap.size := by omega); have bsH := onto (show Below w12.heap.size w12 _ from by repeat (first | exact Below.refl _ _ | assumption | refine st_drew ?_ | refine st_drewN ?_ _ | refine Below.setCell ?_ (by first | omega | (simp; done) | (simp; omega)) _ | refine Below.alloc ?_ (by first | omega | (simp; done) | (simp; omega)) _)) hbH; have bwH := bS.trans (bsH.mono bS.size); have PH := P12.below bsH (by omega); have ⟨qHh0, qHh1, qHm0, qHm1, qHm2, qHm3, qHm4, qHm5⟩ := PH; have yH := bsH.size; obtain ⟨fH0, -⟩ := far (show w.heap.size ≠ wH.heap.size by omega); obtain ⟨fH1, -⟩ := far (show w.heap.size + 1 ≠ wH.heap.size by omega)) | (go_at_call 12; refine (HMV.out _).mono ?_; rintro e wM ⟨rfl, hbM⟩; have roM := hidden (hoH.row.below (onto (show Below wH.heap.size wH _ from by repeat (first | exact Below.refl _ _ | refine st_drew ?_ | refine st_drewN ?_ _ | refine Below.setCell ?_ (by first | omega | (simp; done) | (simp; omega)) _ | refine Below.alloc ?_ (by first | omega | (simp; done) | (simp; omega)) _)) hbM)); have zM := hbM.size; (try simp only [World.size_alloc] at zM); obtain ⟨hcM, hfM⟩ := bcell hbM; (try have tM0 : w12.heap.size < wM.heap.size := by omega); (try have tM1 : wH.heap.size < wM.heap.size := by omega); have bsM := onto (show Below w12.heap.size w12 _ from by repeat (first | exact Below.refl _ _ | assumption | refine st_drew ?_ | refine st_drewN ?_ _ | refine Below.setCell ?_ (by first | omega | (simp; done) | (simp; omega)) _ | refine Below.alloc ?_ (by first | omega | (simp; done) | (simp; omega)) _)) hbM; have PM := P12.below bsM (by omega); have ⟨qMh0, qMh1, qMm0, qMm1, qMm2, qMm3, qMm4, qMm5⟩ := PM; have yM := bsM.size; obtain ⟨fM0, -⟩ := far (show w.heap.size ≠ wM.heap.size by omega); obtain ⟨fM1, -⟩ := far (show w.heap.size + 1 ≠ wM.heap.size by omega)) | (go_at_call 12; refine (HMV.out _).mono ?_; rintro e wM ⟨rfl, hbM⟩; have zM := hbM.size; (try simp only [World.size_alloc] at zM); obtain ⟨hcM, hfM⟩ := bcell hbM; (try have tM0 : w12.heap.size < wM.heap.size := by omega); (try have tM1 : wH.heap.size < wM.heap.size := by omega); have bsM := onto (show Below w12.heap.size w12 _ from by repeat (first | exact Below.refl _ _ | assumption | refine st_drew ?_ | refine st_drewN ?_ _ | refine Below.setCell ?_ (by first | omega | (simp; done) | (simp; omega)) _ | refine Below.alloc ?_ (by first | omega | (simp; done) | (simp; omega)) _)) hbM; have bwM := bS.trans (bsM.mono bS.size); have PM := P12.below bsM (by omega); have ⟨qMh0, qMh1, qMm0, qMm1, qMm2, qMm3, qMm4, qMm5⟩ := PM; have yM := bsM.size; obtain ⟨fM0, -⟩ := far (show w.heap.size ≠ wM.heap.size by omega); obtain ⟨fM1, -⟩ := far (show w.heap.size + 1 ≠ wM.heap.size by omega)) | (go_at_call 13; refine (HID.out _ _ _ _ _ (roM.out.below (by repeat (first | exact Below.refl _ _ | refine st_drew ?_ | refine st_drewN ?_ _ | refine Below.setCell ?_ (by first | omega | (simp; done) | (simp; omega)) _ | refine Below.alloc ?_ (by first | omega | (simp; done) | (simp; omega)) _)))).mono ?_; rintro e wD ⟨a1, c1, a2, c2, rfl, hND, hbD⟩; have zD := hbD.size; (try simp only [World.size_alloc] at zD); obtain ⟨hcD, hfD⟩ := bcell hbD; (try have tD0 : w12.heap.size < wD.heap.size := by omega); (try have tD1 : wH.heap.size < wD.heap.size := by omega); (try have tD2 : wM.heap.size < wD.heap.size := by omega); have bsD := onto (show Below w12.heap.size w12 _ from by repeat (first | exact Below.refl _ _ | assumption | refine st_drew ?_ | refine st_drewN ?_ _ | refine Below.setCell ?_ (by first | omega | (simp; done) | (simp; omega)) _ | refine Below.alloc ?_ (by first | omega | (simp; done) | (simp; omega)) _)) hbD; have PD := P12.below bsD (by omega); have ⟨qDh0, qDh1, qDm0, qDm1, qDm2, qDm3, qDm4, qDm5⟩ := PD; have yD := bsD.size; obtain ⟨fD0, -⟩ := far (show w.heap.size ≠ wD.heap.size by omega); obtain ⟨fD1, -⟩ := far (show w.heap.size + 1 ≠ wD.heap.size by omega)) | (go_at_call 13; refine (HID.out _ _ _ _ _ (hoH.row.below (by repeat (first | exact Below.refl _ _ | refine st_drew ?_ | refine st_drewN ?_ _ | refine Below.setCell ?_ (by first | omega | (simp; done) | (simp; omega)) _ | refine Below.alloc ?_ (by first | omega | (simp; done) | (simp; omega)) _)))).mono ?_; rintro e wD ⟨a1, c1, a2, c2, rfl, hND, hbD⟩; have zD := hbD.size; (try simp only [World.size_alloc] at zD); obtain ⟨hcD, hfD⟩ := bcell hbD; (try have tD0 : w12.heap.size < wD.heap.size := by omega); (try have tD1 : wH.heap.size < wD.heap.size := by omega); (try have tD2 : wM.heap.size < wD.heap.size := by omega); have bsD := onto (show Below w12.heap.size w12 _ from by repeat (first | exact Below.refl _ _ | assumption | refine st_drew ?_ | refine st_drewN ?_ _ | refine Below.setCell ?_ (by first | omega | (simp; done) | (simp; omega)) _ | refine Below.alloc ?_ (by first | omega | (simp; done) | (simp; omega)) _)) hbD; have PD := P12.below bsD (by omega); have ⟨qDh0, qDh1, qDm0, qDm1, qDm2, qDm3, qDm4, qDm5⟩ := PD; have yD := bsD.size; obtain ⟨fD0, -⟩ := far (show w.heap.size ≠ wD.heap.size by omega); obtain ⟨fD1, -⟩ := far (show w.heap.size + 1 ≠ wD.heap.size by omega)) | fail)
        all_goals go_wp2_with fail
        all_goals go_meet
        all_goals first
          | exact ⟨_, a1, c1, a2, c2, rfl, rfl, got_a hND (by first | omega | (simp; omega)) bsD⟩
          | exact ⟨wM.heap.size, a1, c1, a2, c2, rfl, rfl, got_b (u0 := .slice none 0 0) (u1 := .slice none 0 0) hND (by first | omega | (simp; omega)) bsD (by omega) (by simp) (by omega) (by rw [hcD _ _ (by simp)]; simp [go_sem]) (by rw [hcD _ _ (by simp)]; simp [go_sem])⟩
          | exact ⟨wH.heap.size, a1, c1, a2, c2, rfl, rfl, got_b (u0 := .slice none 0 0) (u1 := .slice none 0 0) hND (by first | omega | (simp; omega)) bsD (by omega) (by first | omega | (simp; omega)) (by omega) (by rw [hcD _ _ (by first | omega | (simp; omega)), hcM _ _ (by simp)]; simp [go_sem]) (by rw [hcD _ _ (by first | omega | (simp; omega)), hcM _ _ (by simp)]; simp [go_sem])⟩
          | exact ⟨w12.heap.size, a1, c1, a2, c2, rfl, rfl, got_b (u0 := .slice none 0 0) (u1 := .slice none 0 0) hND (by first | omega | (simp; omega)) bsD (by omega) (by first | omega | (simp; omega)) (by omega) (by rw [hcD _ _ (by first | omega | (simp; omega)), hcM _ _ (by first | omega | (simp; omega)), hcH _ _ (by simp)]; simp [go_sem]) (by rw [hcD _ _ (by first | omega | (simp; omega)), hcM _ _ (by first | omega | (simp; omega)), hcH _ _ (by simp)]; simp [go_sem])⟩
      case rest =>
        obtain ⟨o14, h1, k1, h2, k2, rfl, rfl, G14⟩ := hcut
        obtain ⟨w13, hw13⟩ : ∃ x, x = wc := ⟨_, rfl⟩
        subst hw13
        have G513 := G512.below G14.bel
        have M5 := hidden (M3.out.below G14.bel)
        have M6 := hidden (M4.out.below G14.bel)
        have bS13 := onto bS G14.bel
        have t0 := (G14.bel.cell (p := ⟨o9, 0, none⟩) lt12).trans s0
        have t1 := (G14.bel.cell (p := ⟨o9, 1, none⟩) lt12).trans s1
        have lt13 := Nat.lt_of_lt_of_le lt12 G14.bel.size
        have gb0 := G14.c0
        have gb1 := G14.c1
        have ga0 := G513.c0
        have ga1 := G513.c1
        go_wp2_with fail
        refine (eqhouse_any h1 h2 a1 a2 DB.length k1 DS.length k2 DB.length c1 DS.length c2 DB DS _ G14.own.row G513.own.row LB LS).mono ?_
        rintro e w14 ⟨rfl, hb14⟩
        have M7 := hidden (M5.out.below hb14)
        have M8 := hidden (M6.out.below hb14)
        have bS14 := onto bS13 hb14
        have v0 := (hb14.cell (p := ⟨o9, 0, none⟩) lt13).trans t0
        have v1 := (hb14.cell (p := ⟨o9, 1, none⟩) lt13).trans t1
        go_wp2_with fail
        refine (heldhouse_any g1 g2 DB.length d1 DS.length d2 _ M7.out.row M8.out.row LB LS).mono ?_
        rintro e w15 ⟨rfl, hb15⟩
        have bS15 := onto bS14 hb15
        go_wp2_with fail
        go_ret
        exact ⟨rfl, bS15⟩

set_option maxRecDepth 100000 in
theorem lifted (os : Os) (started : os.Started) (H : Type) (enc : TypeId × Value → H) :
    ReturnsInHanded {} Try.checked os 3 .any (Rows.fnExactHouseDoSpec.pre6 enc Try.prog Try.f3 Rows.fnExactHouseDoRow.domain false) (Rows.fnExactHouseDoSpec.post enc Try.prog Try.f3 false true false false) := by
  refine returnsInHanded_of_change (C := Try.checked) own started (by kernel_rfl) Try.func3
    (ChangeSpec.witness6 (enc := enc) (C := Try.checked) false ⟨#[], #[.agg #[.slice none 0 0, .slice none 0 0], .agg #[.int .i64 0, .int .i64 0, .int .i64 0, .int .i64 0, .int .i64 0, .int .i64 0]], []⟩ 8 (by kernel_rfl) (by kernel_rfl) (by kernel_rfl) (by kernel_rfl)) ?_
  intro W base args ds gs before hval0 hW hcnd _
  have hval : ∀ (j : Nat) t v, Try.f3.params[j]? = some t → args[j]? = some v → Value.okWide Try.prog W .any base t v := hval0
  have hW' := hW
  obtain ⟨p, q, hA0, hV, rfl, hfz, hnd⟩ := hW
  have hA : DataW.TrodAll enc Try.prog W 0 (fun _ => true) true Try.f3.params.toList args.toList ds p := hA0
  rw [Try.params3] at hA hval
  obtain ⟨v0, vs0, d0, ds0, p0, q0, hargs, rfl, rfl, h0, r0⟩ := trodAll_cons hA
  obtain ⟨v1, vs1, d1, ds1, p1, q1, rfl, rfl, rfl, h1, r1⟩ := trodAll_cons r0
  obtain ⟨rfl, rfl, rfl⟩ := trodAll_nil r1
  obtain rfl : args = #[v0, v1] := by cases args; simp_all
  obtain ⟨rfl, rfl⟩ := trodVars_none hV
  have k0 := h0
  have lt0 : ∀ x ∈ p0, x.block < W.heap.size := by obtain ⟨m, hm⟩ := k0; exact DataW.trod_lt m _ _ _ hm
  have k1 := h1
  have lt1 : ∀ x ∈ p1, x.block < W.heap.size := by obtain ⟨m, hm⟩ := k1; exact DataW.trod_lt m _ _ _ hm
  obtain ⟨ao, n, cap, ao2, m, cap2, B, S, rfl, hn, hm, hrow⟩ := house_of_read (hval 0 25 v0 rfl rfl) h0
  obtain ⟨x, rfl⟩ := move_of_read (hval 1 27 v1 rfl rfl) h1
  clear hA0 hval0
  refine (walk ao ao2 n cap m cap2 B S x W hrow hn hm).mono fun e W' ⟨he, bel⟩ => ?_
  subst he
  exact ⟨_, rfl, _, _, _, [], _, [], hW', trodAll_mk1 (shut_bool Try.underlying4 _), (trodAll_cons_mk (Below.trod laidOut (by kernel_rfl) (of_decide_eq_true (by kernel_rfl)) k0 bel lt0) (trodAll_cons_mk (Below.trod laidOut (by kernel_rfl) (of_decide_eq_true (by kernel_rfl)) k1 bel lt1) trodAll_mk0)), rfl, bel.frame _, fun h => by cases h⟩

theorem over : Rows.fnExactHouseDoRow.holds Try.pinned (OpenSpec.ofChange Rows.fnExactHouseDoSpec) :=
  OpenClaim.holds_of_wide 3 Try.f3 rfl rfl rfl rfl rfl rfl rfl ⟨rfl, rfl, rfl, rfl, rfl⟩ rfl rfl rfl rfl rfl (by kernel_rfl) Try.func3 (by kernel_rfl)
    (of_decide_eq_true (by kernel_rfl)) (by unfold Func.isWrapper; first | (rw [if_pos (by decide +kernel)]; kernel_rfl) | (rw [if_neg (by decide +kernel)]; exact ⟨rfl, rfl⟩))
    (fun os started H enc _ => lifted os started H enc)
end fnExactHouseDo
theorem fnExactHouseDo_holds : Rows.FnExactHouseDoSaid := fnExactHouseDo.over
end Go.Proofs.Ytpdlkkbnckjibam
