/-
  What a move does, the specification's, more of it.
-/
import Derived.Test.YtklgadaefngnnaaIi
import Derived.BigQuiet
namespace Go.Proofs.Ytklgadaefngnnaa
open Go.RowKit Hm
set_option linter.unusedVariables false

theorem own_T {w : World} {b e s n : Nat} {v : Value} {xs : List Value} (h : w.ownsRow b e s v n xs) : ∀ k, v.ownBlock = some k → IsT w k e := by
  obtain ⟨q, ⟨rfl, q2⟩ | ⟨g1, c1, cur, rfl, hg1, hh, r⟩⟩ := h
  · intro k hk; cases hk
  · intro k hk; cases hk; exact ⟨cur, hh⟩
theorem ne_ty {w : World} {a b t1 t2 : Nat} (h1 : IsT w a t1) (h2 : IsT w b t2) (hne : t1 ≠ t2) : a ≠ b := by
  rintro rfl
  obtain ⟨c1, e1⟩ := h1
  obtain ⟨c2, e2⟩ := h2
  rw [e1] at e2
  have := Option.some.inj e2
  injection this with _ h5
  exact hne h5
theorem own_ne {w : World} {b e s n : Nat} {v : Value} {xs : List Value} (h : w.ownsRow b e s v n xs) {p : Addr} (hp : ∀ k, v.ownBlock = some k → k ≠ p.block) (u : Value) : (w.setCell p u).ownsRow b e s v n xs := by
  obtain ⟨q, ⟨q1, q2⟩ | ⟨g1, c1, cur, rfl, hg1, hh, r⟩⟩ := h
  · exact ⟨q, Or.inl ⟨q1, q2⟩⟩
  · exact ⟨q, Or.inr ⟨g1, c1, cur, rfl, hg1, by rw [Below.heap_setCell _ _ _ _ (hp g1 rfl)]; exact hh, r⟩⟩
theorem HNew.ne {w : World} {base : Nat} {vb vs : Value} {B : List Bd} {S : List St} (h : HNew w base vb vs B S) {p : Addr} (h1 : ∀ k, vb.ownBlock = some k → k ≠ p.block) (h2 : ∀ k, vs.ownBlock = some k → k ≠ p.block) (u : Value) : HNew (w.setCell p u) base vb vs B S := ⟨own_ne h.1 h1 u, own_ne h.2 h2 u⟩
theorem Ob.far {o g j : Nat} {W : World} {vb vs : Value} (h : Ob o W vb vs) (hne : o ≠ g) (u : Value) : Ob o (W.setCell ⟨g, j, none⟩ u) vb vs where
  h0 := ((Go.Proofs.Ytklgadaefngnnaa.far hne).1 W j 0 u).trans h.h0
  h1 := ((Go.Proofs.Ytklgadaefngnnaa.far hne).1 W j 1 u).trans h.h1
  f0 := ((Go.Proofs.Ytklgadaefngnnaa.far hne).2 W j 0 u).trans h.f0
  f1 := ((Go.Proofs.Ytklgadaefngnnaa.far hne).2 W j 1 u).trans h.f1
  ty := h.ty.setCell _ _

set_option maxRecDepth 20000 in
set_option maxHeartbeats 4000000 in
theorem sdo_there (ao ao2 : Option Addr) (cap cap2 : Nat) (B : List Bd) (S : List St) (pr sx nd bd tm : Int) (w : World) (h : HRw w (.slice ao B.length cap) (.slice ao2 S.length cap2) B S) (hn : B.length ≤ 200) (hm : S.length ≤ 1000) (hok : mvOk B.length ⟨1, pr, sx, nd, bd, tm⟩ = true) (hlt : late tm S = false) (k : Nat) (hpl : thereAt pr S = (k : Int)) :
    Calls Try.prog 40 #[.agg #[.slice ao B.length cap, .slice ao2 S.length cap2], .agg #[.int .i64 1, .int .i64 pr, .int .i64 sx, .int .i64 nd, .int .i64 bd, .int .i64 tm]] w fun e w' => ∃ b1 b2 b3 s1 s2 s3, e = .returned (.tuple #[.agg #[.slice b1 b2 b3, .slice s1 s2 s3], .int .i64 4]) ∧ HNew w' w.heap.size (.slice b1 b2 b3) (.slice s1 s2 s3) B S ∧ Below w.heap.size w w' := by
  have HROW := hidden h
  have HC := hidden (fun W (hW : Below w.heap.size w W) => scopy_any ao ao2 B.length cap S.length cap2 B S W (h.below hW) (by omega) (by omega))
  have HM := hidden (smove_any ao ao2 B.length cap S.length cap2 ⟨1, pr, sx, nd, bd, tm⟩)
  unfold aM at HM
  rw [hok] at HM
  have HT := hidden (fun W (hW : Below w.heap.size w W) => sthere_any ao ao2 B.length cap S.length cap2 S pr W (h.below hW).2 (by omega))
  rw [hpl] at HT
  have HLT := hidden hlt
  have kk1 : (0 : Int) ≤ (k : Int) := by omega
  clear h hok hlt hpl
  go_enter Try.func40, Try.ntmps40
  go_wp2_with fail
  refine (HC.out _ (by repeat (first | exact Below.refl _ _ | assumption | refine st_drew ?_ | refine st_drewN ?_ _ | refine Below.setCell ?_ (by first | omega | (simp; done) | (simp; omega)) _ | refine Below.alloc ?_ (by first | omega | (simp; done) | (simp; omega)) _))).mono ?_
  rintro e w1 ⟨a1, c1, a2, c2, rfl, hN1, hb1⟩
  simp only [World.size_alloc] at hN1
  have bA1 := onto (show Below w.heap.size w _ from by repeat (first | exact Below.refl _ _ | assumption | refine st_drew ?_ | refine st_drewN ?_ _ | refine Below.setCell ?_ (by first | omega | (simp; done) | (simp; omega)) _ | refine Below.alloc ?_ (by first | omega | (simp; done) | (simp; omega)) _)) hb1
  have z1 := hb1.size
  simp only [World.size_alloc] at z1
  have BP := (Bx.start w _ _ _ _ _ _ _ _).below hb1 (by simp)
  have bX : Below w1.heap.size w1 (w1.alloc (.cells #[.slice a1 B.length c1, .slice a2 S.length c2] 27)) := (Below.refl _ _).alloc (Nat.le_refl _) _
  have bAX := onto bA1 bX
  have B1 := BP.below bX (by omega)
  have N1 := hidden (hN1.below bX)
  have O1 := Ob.start w1 (.slice a1 B.length c1) (.slice a2 S.length c2)
  have zX : w1.heap.size < (w1.alloc (.cells #[.slice a1 B.length c1, .slice a2 S.length c2] 27)).heap.size := by simp
  clear bX BP hN1 hb1
  generalize hWX : (w1.alloc (.cells #[.slice a1 B.length c1, .slice a2 S.length c2] 27)) = WX at *
  have ⟨q1h0, q1h1, q1m0, q1m1, q1m2, q1m3, q1m4, q1m5, q1r0, q1r1, q1f0, q1f1, q1ty⟩ := B1
  have ⟨ob10, ob11, ob1f0, ob1f1, ob1ty⟩ := O1
  go_upto_region 6 with (first | (go_at_call 80; refine (HM.out _).mono ?_; rintro e w2 ⟨rfl, hb2⟩; have bA2 := onto bAX hb2; have z2 := hb2.size; have B2 := B1.below hb2 (by omega); have O2 := O1.below hb2 (by omega); have N2 := hidden (N1.out.below hb2); have ⟨q2h0, q2h1, q2m0, q2m1, q2m2, q2m3, q2m4, q2m5, q2r0, q2r1, q2f0, q2f1, q2ty⟩ := B2; have ⟨ob20, ob21, ob2f0, ob2f1, ob2ty⟩ := O2) | (go_at_call 81; refine (HT.out _ bA2).mono ?_; rintro e w3 ⟨rfl, hb3⟩; have bA3 := onto bA2 hb3; have z3 := hb3.size; have B3 := B2.below hb3 (by omega); have O3 := O2.below hb3 (by omega); have N3 := hidden (N2.out.below hb3); have ⟨q3h0, q3h1, q3m0, q3m1, q3m2, q3m3, q3m4, q3m5, q3r0, q3r1, q3f0, q3f1, q3ty⟩ := B3; have ⟨ob30, ob31, ob3f0, ob3f1, ob3ty⟩ := O3) | fail)
  go_cut [37] (fun v wx => (∃ nn, wx = w3.drewN nn) ∧ v = .bool false)
  case first =>
    rcases Nat.eq_zero_or_pos S.length with q | q
    · have HR : Hid (late tm S = false) := by unfold late; rw [Hid, decide_eq_false (show ¬ 0 < S.length by omega)]; rfl
      have hd : decide (0 < S.length) = false := decide_eq_false (show ¬ 0 < S.length by omega)
      have HL : Hid (false = false) := by first | exact (HLT.out.symm.trans HR.out) | fail
      clear q HR
      go_quiet (fail)
      go_wp2_with fail
      go_meet
      exact ⟨⟨_, rfl⟩, by first | rfl | rw [HL.out]⟩
    · obtain ⟨j, hj⟩ : ∃ j, S.length = j + 1 := ⟨S.length - 1, by omega⟩
      obtain ⟨y, hy⟩ := some_at S j (by omega)
      obtain ⟨gy, offy, rfl, hgy, -, -, -, -, cy, -⟩ := stay_cells (HROW.out.below bA3).2 hy
      have HR : Hid (late tm S = decide (tm < y.frm)) := by
        unfold late
        have e : S.getD (S.length - 1) default = y := by rw [hj, Nat.add_sub_cancel, List.getD_eq_getElem?_getD, hy]; rfl
        rw [Hid, e, decide_eq_true q]; rfl
      have hd : decide (0 < S.length) = true := decide_eq_true (show 0 < S.length by omega)
      have k0 : (S.length : Int) - 1 = (j : Int) := by omega
      have k1 : (0 : Int) ≤ (j : Int) := by omega
      have k2 : (j : Int) < (S.length : Int) := by omega
      have HL : Hid (decide (tm < y.frm) = false) := HR.out.symm.trans HLT.out
      clear q hj hy HR
      go_quiet (fail)
      go_wp2_with fail
      go_meet
      exact ⟨⟨_, rfl⟩, by first | (rw [HL.out]; done) | rw [← HL.out]⟩
  case rest =>
    obtain ⟨⟨nn, rfl⟩, rfl⟩ := hcut
    have b4 : Below w3.heap.size w3 (w3.drewN nn) := st_drewN (Below.refl _ _) _
    have bA4 := onto bA3 b4
    have z4 := b4.size
    have B4 := B3.below b4 (by omega)
    have O4 := O3.below b4 (by omega)
    have N4 := hidden (N3.out.below b4)
    clear b4
    generalize w3.drewN nn = w4 at *
    have ⟨q4h0, q4h1, q4m0, q4m1, q4m2, q4m3, q4m4, q4m5, q4r0, q4r1, q4f0, q4f1, q4ty⟩ := B4
    have ⟨ob40, ob41, ob4f0, ob4f1, ob4ty⟩ := O4
    go_wp2_with fail
    exact bodyPost_ret (v := .tuple #[.agg #[.slice a1 B.length c1, .slice a2 S.length c2], .int .i64 4]) (by simp [results, Try.results40, go_sem, q4r0, q4r1]) rfl ⟨_, _, _, _, _, _, rfl, ((N4.out.base_le (by omega)).ty q4ty (by decide) (by decide) _).ty (q4ty.setCell _ _) (by decide) (by decide) _, (bA4.setCell (p := ⟨w.heap.size + 1 + 1, 0, none⟩) (by show w.heap.size ≤ w.heap.size + 1 + 1; omega) _).setCell (p := ⟨w.heap.size + 1 + 1, 1, none⟩) (by show w.heap.size ≤ w.heap.size + 1 + 1; omega) _⟩

set_option maxRecDepth 20000 in
set_option maxHeartbeats 4000000 in
theorem sdo_none2 (ao ao2 : Option Addr) (cap cap2 : Nat) (B : List Bd) (S : List St) (pr sx nd bd tm : Int) (w : World) (h : HRw w (.slice ao B.length cap) (.slice ao2 S.length cap2) B S) (hn : B.length ≤ 200) (hm : S.length ≤ 1000) (hok : mvOk B.length ⟨2, pr, sx, nd, bd, tm⟩ = true) (hlt : late tm S = false) (hpl : thereAt pr S = -1) :
    Calls Try.prog 40 #[.agg #[.slice ao B.length cap, .slice ao2 S.length cap2], .agg #[.int .i64 2, .int .i64 pr, .int .i64 sx, .int .i64 nd, .int .i64 bd, .int .i64 tm]] w fun e w' => ∃ b1 b2 b3 s1 s2 s3, e = .returned (.tuple #[.agg #[.slice b1 b2 b3, .slice s1 s2 s3], .int .i64 5]) ∧ HNew w' w.heap.size (.slice b1 b2 b3) (.slice s1 s2 s3) B S ∧ Below w.heap.size w w' := by
  have HROW := hidden h
  have HC := hidden (fun W (hW : Below w.heap.size w W) => scopy_any ao ao2 B.length cap S.length cap2 B S W (h.below hW) (by omega) (by omega))
  have HM := hidden (smove_any ao ao2 B.length cap S.length cap2 ⟨2, pr, sx, nd, bd, tm⟩)
  unfold aM at HM
  rw [hok] at HM
  have HT := hidden (fun W (hW : Below w.heap.size w W) => sthere_any ao ao2 B.length cap S.length cap2 S pr W (h.below hW).2 (by omega))
  rw [hpl] at HT
  have HLT := hidden hlt
  clear h hok hlt hpl
  go_enter Try.func40, Try.ntmps40
  go_wp2_with fail
  refine (HC.out _ (by repeat (first | exact Below.refl _ _ | assumption | refine st_drew ?_ | refine st_drewN ?_ _ | refine Below.setCell ?_ (by first | omega | (simp; done) | (simp; omega)) _ | refine Below.alloc ?_ (by first | omega | (simp; done) | (simp; omega)) _))).mono ?_
  rintro e w1 ⟨a1, c1, a2, c2, rfl, hN1, hb1⟩
  simp only [World.size_alloc] at hN1
  have bA1 := onto (show Below w.heap.size w _ from by repeat (first | exact Below.refl _ _ | assumption | refine st_drew ?_ | refine st_drewN ?_ _ | refine Below.setCell ?_ (by first | omega | (simp; done) | (simp; omega)) _ | refine Below.alloc ?_ (by first | omega | (simp; done) | (simp; omega)) _)) hb1
  have z1 := hb1.size
  simp only [World.size_alloc] at z1
  have BP := (Bx.start w _ _ _ _ _ _ _ _).below hb1 (by simp)
  have bX : Below w1.heap.size w1 (w1.alloc (.cells #[.slice a1 B.length c1, .slice a2 S.length c2] 27)) := (Below.refl _ _).alloc (Nat.le_refl _) _
  have bAX := onto bA1 bX
  have B1 := BP.below bX (by omega)
  have N1 := hidden (hN1.below bX)
  have O1 := Ob.start w1 (.slice a1 B.length c1) (.slice a2 S.length c2)
  have zX : w1.heap.size < (w1.alloc (.cells #[.slice a1 B.length c1, .slice a2 S.length c2] 27)).heap.size := by simp
  clear bX BP hN1 hb1
  generalize hWX : (w1.alloc (.cells #[.slice a1 B.length c1, .slice a2 S.length c2] 27)) = WX at *
  have ⟨q1h0, q1h1, q1m0, q1m1, q1m2, q1m3, q1m4, q1m5, q1r0, q1r1, q1f0, q1f1, q1ty⟩ := B1
  have ⟨ob10, ob11, ob1f0, ob1f1, ob1ty⟩ := O1
  go_upto_region 6 with (first | (go_at_call 80; refine (HM.out _).mono ?_; rintro e w2 ⟨rfl, hb2⟩; have bA2 := onto bAX hb2; have z2 := hb2.size; have B2 := B1.below hb2 (by omega); have O2 := O1.below hb2 (by omega); have N2 := hidden (N1.out.below hb2); have ⟨q2h0, q2h1, q2m0, q2m1, q2m2, q2m3, q2m4, q2m5, q2r0, q2r1, q2f0, q2f1, q2ty⟩ := B2; have ⟨ob20, ob21, ob2f0, ob2f1, ob2ty⟩ := O2) | (go_at_call 81; refine (HT.out _ bA2).mono ?_; rintro e w3 ⟨rfl, hb3⟩; have bA3 := onto bA2 hb3; have z3 := hb3.size; have B3 := B2.below hb3 (by omega); have O3 := O2.below hb3 (by omega); have N3 := hidden (N2.out.below hb3); have ⟨q3h0, q3h1, q3m0, q3m1, q3m2, q3m3, q3m4, q3m5, q3r0, q3r1, q3f0, q3f1, q3ty⟩ := B3; have ⟨ob30, ob31, ob3f0, ob3f1, ob3ty⟩ := O3) | fail)
  go_cut [37] (fun v wx => (∃ nn, wx = w3.drewN nn) ∧ v = .bool false)
  case first =>
    rcases Nat.eq_zero_or_pos S.length with q | q
    · have HR : Hid (late tm S = false) := by unfold late; rw [Hid, decide_eq_false (show ¬ 0 < S.length by omega)]; rfl
      have hd : decide (0 < S.length) = false := decide_eq_false (show ¬ 0 < S.length by omega)
      have HL : Hid (false = false) := by first | exact (HLT.out.symm.trans HR.out) | fail
      clear q HR
      go_quiet (fail)
      go_wp2_with fail
      go_meet
      exact ⟨⟨_, rfl⟩, by first | rfl | rw [HL.out]⟩
    · obtain ⟨j, hj⟩ : ∃ j, S.length = j + 1 := ⟨S.length - 1, by omega⟩
      obtain ⟨y, hy⟩ := some_at S j (by omega)
      obtain ⟨gy, offy, rfl, hgy, -, -, -, -, cy, -⟩ := stay_cells (HROW.out.below bA3).2 hy
      have HR : Hid (late tm S = decide (tm < y.frm)) := by
        unfold late
        have e : S.getD (S.length - 1) default = y := by rw [hj, Nat.add_sub_cancel, List.getD_eq_getElem?_getD, hy]; rfl
        rw [Hid, e, decide_eq_true q]; rfl
      have hd : decide (0 < S.length) = true := decide_eq_true (show 0 < S.length by omega)
      have k0 : (S.length : Int) - 1 = (j : Int) := by omega
      have k1 : (0 : Int) ≤ (j : Int) := by omega
      have k2 : (j : Int) < (S.length : Int) := by omega
      have HL : Hid (decide (tm < y.frm) = false) := HR.out.symm.trans HLT.out
      clear q hj hy HR
      go_quiet (fail)
      go_wp2_with fail
      go_meet
      exact ⟨⟨_, rfl⟩, by first | (rw [HL.out]; done) | rw [← HL.out]⟩
  case rest =>
    obtain ⟨⟨nn, rfl⟩, rfl⟩ := hcut
    have b4 : Below w3.heap.size w3 (w3.drewN nn) := st_drewN (Below.refl _ _) _
    have bA4 := onto bA3 b4
    have z4 := b4.size
    have B4 := B3.below b4 (by omega)
    have O4 := O3.below b4 (by omega)
    have N4 := hidden (N3.out.below b4)
    clear b4
    generalize w3.drewN nn = w4 at *
    have ⟨q4h0, q4h1, q4m0, q4m1, q4m2, q4m3, q4m4, q4m5, q4r0, q4r1, q4f0, q4f1, q4ty⟩ := B4
    have ⟨ob40, ob41, ob4f0, ob4f1, ob4ty⟩ := O4
    go_wp2_with fail
    exact bodyPost_ret (v := .tuple #[.agg #[.slice a1 B.length c1, .slice a2 S.length c2], .int .i64 5]) (by simp [results, Try.results40, go_sem, q4r0, q4r1]) rfl ⟨_, _, _, _, _, _, rfl, ((N4.out.base_le (by omega)).ty q4ty (by decide) (by decide) _).ty (q4ty.setCell _ _) (by decide) (by decide) _, (bA4.setCell (p := ⟨w.heap.size + 1 + 1, 0, none⟩) (by show w.heap.size ≤ w.heap.size + 1 + 1; omega) _).setCell (p := ⟨w.heap.size + 1 + 1, 1, none⟩) (by show w.heap.size ≤ w.heap.size + 1 + 1; omega) _⟩

set_option maxRecDepth 20000 in
set_option maxHeartbeats 4000000 in
theorem sdo_none3 (ao ao2 : Option Addr) (cap cap2 : Nat) (B : List Bd) (S : List St) (pr sx nd bd tm : Int) (w : World) (h : HRw w (.slice ao B.length cap) (.slice ao2 S.length cap2) B S) (hn : B.length ≤ 200) (hm : S.length ≤ 1000) (hok : mvOk B.length ⟨3, pr, sx, nd, bd, tm⟩ = true) (hlt : late tm S = false) (hpl : thereAt pr S = -1) :
    Calls Try.prog 40 #[.agg #[.slice ao B.length cap, .slice ao2 S.length cap2], .agg #[.int .i64 3, .int .i64 pr, .int .i64 sx, .int .i64 nd, .int .i64 bd, .int .i64 tm]] w fun e w' => ∃ b1 b2 b3 s1 s2 s3, e = .returned (.tuple #[.agg #[.slice b1 b2 b3, .slice s1 s2 s3], .int .i64 5]) ∧ HNew w' w.heap.size (.slice b1 b2 b3) (.slice s1 s2 s3) B S ∧ Below w.heap.size w w' := by
  have HROW := hidden h
  have HC := hidden (fun W (hW : Below w.heap.size w W) => scopy_any ao ao2 B.length cap S.length cap2 B S W (h.below hW) (by omega) (by omega))
  have HM := hidden (smove_any ao ao2 B.length cap S.length cap2 ⟨3, pr, sx, nd, bd, tm⟩)
  unfold aM at HM
  rw [hok] at HM
  have HT := hidden (fun W (hW : Below w.heap.size w W) => sthere_any ao ao2 B.length cap S.length cap2 S pr W (h.below hW).2 (by omega))
  rw [hpl] at HT
  have HLT := hidden hlt
  clear h hok hlt hpl
  go_enter Try.func40, Try.ntmps40
  go_wp2_with fail
  refine (HC.out _ (by repeat (first | exact Below.refl _ _ | assumption | refine st_drew ?_ | refine st_drewN ?_ _ | refine Below.setCell ?_ (by first | omega | (simp; done) | (simp; omega)) _ | refine Below.alloc ?_ (by first | omega | (simp; done) | (simp; omega)) _))).mono ?_
  rintro e w1 ⟨a1, c1, a2, c2, rfl, hN1, hb1⟩
  simp only [World.size_alloc] at hN1
  have bA1 := onto (show Below w.heap.size w _ from by repeat (first | exact Below.refl _ _ | assumption | refine st_drew ?_ | refine st_drewN ?_ _ | refine Below.setCell ?_ (by first | omega | (simp; done) | (simp; omega)) _ | refine Below.alloc ?_ (by first | omega | (simp; done) | (simp; omega)) _)) hb1
  have z1 := hb1.size
  simp only [World.size_alloc] at z1
  have BP := (Bx.start w _ _ _ _ _ _ _ _).below hb1 (by simp)
  have bX : Below w1.heap.size w1 (w1.alloc (.cells #[.slice a1 B.length c1, .slice a2 S.length c2] 27)) := (Below.refl _ _).alloc (Nat.le_refl _) _
  have bAX := onto bA1 bX
  have B1 := BP.below bX (by omega)
  have N1 := hidden (hN1.below bX)
  have O1 := Ob.start w1 (.slice a1 B.length c1) (.slice a2 S.length c2)
  have zX : w1.heap.size < (w1.alloc (.cells #[.slice a1 B.length c1, .slice a2 S.length c2] 27)).heap.size := by simp
  clear bX BP hN1 hb1
  generalize hWX : (w1.alloc (.cells #[.slice a1 B.length c1, .slice a2 S.length c2] 27)) = WX at *
  have ⟨q1h0, q1h1, q1m0, q1m1, q1m2, q1m3, q1m4, q1m5, q1r0, q1r1, q1f0, q1f1, q1ty⟩ := B1
  have ⟨ob10, ob11, ob1f0, ob1f1, ob1ty⟩ := O1
  go_upto_region 6 with (first | (go_at_call 80; refine (HM.out _).mono ?_; rintro e w2 ⟨rfl, hb2⟩; have bA2 := onto bAX hb2; have z2 := hb2.size; have B2 := B1.below hb2 (by omega); have O2 := O1.below hb2 (by omega); have N2 := hidden (N1.out.below hb2); have ⟨q2h0, q2h1, q2m0, q2m1, q2m2, q2m3, q2m4, q2m5, q2r0, q2r1, q2f0, q2f1, q2ty⟩ := B2; have ⟨ob20, ob21, ob2f0, ob2f1, ob2ty⟩ := O2) | (go_at_call 81; refine (HT.out _ bA2).mono ?_; rintro e w3 ⟨rfl, hb3⟩; have bA3 := onto bA2 hb3; have z3 := hb3.size; have B3 := B2.below hb3 (by omega); have O3 := O2.below hb3 (by omega); have N3 := hidden (N2.out.below hb3); have ⟨q3h0, q3h1, q3m0, q3m1, q3m2, q3m3, q3m4, q3m5, q3r0, q3r1, q3f0, q3f1, q3ty⟩ := B3; have ⟨ob30, ob31, ob3f0, ob3f1, ob3ty⟩ := O3) | fail)
  go_cut [37] (fun v wx => (∃ nn, wx = w3.drewN nn) ∧ v = .bool false)
  case first =>
    rcases Nat.eq_zero_or_pos S.length with q | q
    · have HR : Hid (late tm S = false) := by unfold late; rw [Hid, decide_eq_false (show ¬ 0 < S.length by omega)]; rfl
      have hd : decide (0 < S.length) = false := decide_eq_false (show ¬ 0 < S.length by omega)
      have HL : Hid (false = false) := by first | exact (HLT.out.symm.trans HR.out) | fail
      clear q HR
      go_quiet (fail)
      go_wp2_with fail
      go_meet
      exact ⟨⟨_, rfl⟩, by first | rfl | rw [HL.out]⟩
    · obtain ⟨j, hj⟩ : ∃ j, S.length = j + 1 := ⟨S.length - 1, by omega⟩
      obtain ⟨y, hy⟩ := some_at S j (by omega)
      obtain ⟨gy, offy, rfl, hgy, -, -, -, -, cy, -⟩ := stay_cells (HROW.out.below bA3).2 hy
      have HR : Hid (late tm S = decide (tm < y.frm)) := by
        unfold late
        have e : S.getD (S.length - 1) default = y := by rw [hj, Nat.add_sub_cancel, List.getD_eq_getElem?_getD, hy]; rfl
        rw [Hid, e, decide_eq_true q]; rfl
      have hd : decide (0 < S.length) = true := decide_eq_true (show 0 < S.length by omega)
      have k0 : (S.length : Int) - 1 = (j : Int) := by omega
      have k1 : (0 : Int) ≤ (j : Int) := by omega
      have k2 : (j : Int) < (S.length : Int) := by omega
      have HL : Hid (decide (tm < y.frm) = false) := HR.out.symm.trans HLT.out
      clear q hj hy HR
      go_quiet (fail)
      go_wp2_with fail
      go_meet
      exact ⟨⟨_, rfl⟩, by first | (rw [HL.out]; done) | rw [← HL.out]⟩
  case rest =>
    obtain ⟨⟨nn, rfl⟩, rfl⟩ := hcut
    have b4 : Below w3.heap.size w3 (w3.drewN nn) := st_drewN (Below.refl _ _) _
    have bA4 := onto bA3 b4
    have z4 := b4.size
    have B4 := B3.below b4 (by omega)
    have O4 := O3.below b4 (by omega)
    have N4 := hidden (N3.out.below b4)
    clear b4
    generalize w3.drewN nn = w4 at *
    have ⟨q4h0, q4h1, q4m0, q4m1, q4m2, q4m3, q4m4, q4m5, q4r0, q4r1, q4f0, q4f1, q4ty⟩ := B4
    have ⟨ob40, ob41, ob4f0, ob4f1, ob4ty⟩ := O4
    go_wp2_with fail
    exact bodyPost_ret (v := .tuple #[.agg #[.slice a1 B.length c1, .slice a2 S.length c2], .int .i64 5]) (by simp [results, Try.results40, go_sem, q4r0, q4r1]) rfl ⟨_, _, _, _, _, _, rfl, ((N4.out.base_le (by omega)).ty q4ty (by decide) (by decide) _).ty (q4ty.setCell _ _) (by decide) (by decide) _, (bA4.setCell (p := ⟨w.heap.size + 1 + 1, 0, none⟩) (by show w.heap.size ≤ w.heap.size + 1 + 1; omega) _).setCell (p := ⟨w.heap.size + 1 + 1, 1, none⟩) (by show w.heap.size ≤ w.heap.size + 1 + 1; omega) _⟩

end Go.Proofs.Ytklgadaefngnnaa
