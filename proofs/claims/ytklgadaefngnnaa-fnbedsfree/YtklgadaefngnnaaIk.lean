/-
  What a move does, the specification's, somebody goes.
-/
import Derived.Test.YtklgadaefngnnaaIj
import Derived.BigQuiet
namespace Go.Proofs.Ytklgadaefngnnaa
open Go.RowKit Hm
set_option linter.unusedVariables false

set_option maxRecDepth 20000 in
set_option maxHeartbeats 4000000 in
theorem sdo_out (ao ao2 : Option Addr) (cap cap2 : Nat) (B : List Bd) (S : List St) (pr sx nd bd tm : Int) (w : World) (h : HRw w (.slice ao B.length cap) (.slice ao2 S.length cap2) B S) (hn : B.length ≤ 200) (hm : S.length ≤ 1000) (hok : mvOk B.length ⟨3, pr, sx, nd, bd, tm⟩ = true) (hlt : late tm S = false) (k : Nat) (hpl : thereAt pr S = (k : Int)) (xp xs xn xb xf xt : Int) (hx : S[k]? = some ⟨xp, xs, xn, xb, xf, xt⟩) :
    Calls Try.prog 40 #[.agg #[.slice ao B.length cap, .slice ao2 S.length cap2], .agg #[.int .i64 3, .int .i64 pr, .int .i64 sx, .int .i64 nd, .int .i64 bd, .int .i64 tm]] w fun e w' => ∃ b1 b2 b3 s1 s2 s3, e = .returned (.tuple #[.agg #[.slice b1 b2 b3, .slice s1 s2 s3], .int .i64 0]) ∧ HNew w' w.heap.size (.slice b1 b2 b3) (.slice s1 s2 s3) B (ended S k tm) ∧ Below w.heap.size w w' := by
  obtain ⟨go, off, rfl, hgo, o0, o1, o2, o3, o4, o5⟩ := stay_cells h.2 hx
  have HROW := hidden h
  have HC := hidden (fun W (hW : Below w.heap.size w W) => scopy_any ao (some ⟨go, off, none⟩) B.length cap S.length cap2 B S W (h.below hW) (by omega) (by omega))
  have HM := hidden (smove_any ao (some ⟨go, off, none⟩) B.length cap S.length cap2 ⟨3, pr, sx, nd, bd, tm⟩)
  unfold aM at HM
  rw [hok] at HM
  have HT := hidden (fun W (hW : Below w.heap.size w W) => sthere_any ao (some ⟨go, off, none⟩) B.length cap S.length cap2 S pr W (h.below hW).2 (by omega))
  rw [hpl] at HT
  have HX := hidden hx
  have HLT := hidden hlt
  have kk0 : ¬ (k : Int) < 0 := by omega
  have kk1 : (0 : Int) ≤ (k : Int) := by omega
  have kk2 : (k : Int) < (S.length : Int) := by have := get_lt hx; omega
  clear h hok hlt hpl hx
  go_enter Try.func40, Try.ntmps40
  go_wp2_with fail
  refine (HC.out _ (by repeat (first | exact Below.refl _ _ | assumption | refine st_drew ?_ | refine st_drewN ?_ _ | refine Below.setCell ?_ (by first | omega | (simp; done) | (simp; omega)) _ | refine Below.alloc ?_ (by first | omega | (simp; done) | (simp; omega)) _))).mono ?_
  rintro e w1 ⟨a1, c1, a2, c2, rfl, hN1, hb1⟩
  simp only [World.size_alloc] at hN1
  have bA1 := onto (show Below w.heap.size w _ from by repeat (first | exact Below.refl _ _ | assumption | refine st_drew ?_ | refine st_drewN ?_ _ | refine Below.setCell ?_ (by first | omega | (simp; done) | (simp; omega)) _ | refine Below.alloc ?_ (by first | omega | (simp; done) | (simp; omega)) _)) hb1
  have z1 := hb1.size
  simp only [World.size_alloc] at z1
  have BP := (Bx.start w _ _ _ _ _ _ _ _).below hb1 (by simp)
  have bX : Below w1.heap.size w1 (w1.alloc (.cells #[.slice a1 B.length c1, .slice a2 S.length c2] 27)) := (Below.refl _ _).alloc (Nat.le_refl _) _
  have bAX := onto bA1 bX
  have B1 := BP.below bX (by omega)
  have N1 := hidden (hN1.below bX)
  have O1 := Ob.start w1 (.slice a1 B.length c1) (.slice a2 S.length c2)
  have zX : w1.heap.size < (w1.alloc (.cells #[.slice a1 B.length c1, .slice a2 S.length c2] 27)).heap.size := by simp
  clear bX BP hN1 hb1
  generalize hWX : (w1.alloc (.cells #[.slice a1 B.length c1, .slice a2 S.length c2] 27)) = WX at *
  have ⟨q1h0, q1h1, q1m0, q1m1, q1m2, q1m3, q1m4, q1m5, q1r0, q1r1, q1f0, q1f1, q1ty⟩ := B1
  have ⟨ob10, ob11, ob1f0, ob1f1, ob1ty⟩ := O1
  go_upto_region 6 with (first | (go_at_call 80; refine (HM.out _).mono ?_; rintro e w2 ⟨rfl, hb2⟩; have bA2 := onto bAX hb2; have z2 := hb2.size; have B2 := B1.below hb2 (by omega); have O2 := O1.below hb2 (by omega); have N2 := hidden (N1.out.below hb2); have ⟨q2h0, q2h1, q2m0, q2m1, q2m2, q2m3, q2m4, q2m5, q2r0, q2r1, q2f0, q2f1, q2ty⟩ := B2; have ⟨ob20, ob21, ob2f0, ob2f1, ob2ty⟩ := O2) | (go_at_call 81; refine (HT.out _ bA2).mono ?_; rintro e w3 ⟨rfl, hb3⟩; have bA3 := onto bA2 hb3; have z3 := hb3.size; have B3 := B2.below hb3 (by omega); have O3 := O2.below hb3 (by omega); have N3 := hidden (N2.out.below hb3); have ⟨q3h0, q3h1, q3m0, q3m1, q3m2, q3m3, q3m4, q3m5, q3r0, q3r1, q3f0, q3f1, q3ty⟩ := B3; have ⟨ob30, ob31, ob3f0, ob3f1, ob3ty⟩ := O3) | fail)
  go_cut [37] (fun v wx => (∃ nn, wx = w3.drewN nn) ∧ v = .bool false)
  case first =>
    rcases Nat.eq_zero_or_pos S.length with q | q
    · have HR : Hid (late tm S = false) := by unfold late; rw [Hid, decide_eq_false (show ¬ 0 < S.length by omega)]; rfl
      have hd : decide (0 < S.length) = false := decide_eq_false (show ¬ 0 < S.length by omega)
      have HL : Hid (false = false) := by first | exact (HLT.out.symm.trans HR.out) | fail
      clear q HR
      go_quiet (fail)
      go_wp2_with fail
      go_meet
      exact ⟨⟨_, rfl⟩, by first | rfl | rw [HL.out]⟩
    · obtain ⟨j, hj⟩ : ∃ j, S.length = j + 1 := ⟨S.length - 1, by omega⟩
      obtain ⟨y, hy⟩ := some_at S j (by omega)
      obtain ⟨gy, offy, hay, hgy, -, -, -, -, cy, -⟩ := stay_cells (HROW.out.below bA3).2 hy
      injection hay with hay
      injection hay with hay1 hay2 hay3
      clear hay3
      subst hay1
      subst hay2
      have HR : Hid (late tm S = decide (tm < y.frm)) := by
        unfold late
        have e : S.getD (S.length - 1) default = y := by rw [hj, Nat.add_sub_cancel, List.getD_eq_getElem?_getD, hy]; rfl
        rw [Hid, e, decide_eq_true q]; rfl
      have hd : decide (0 < S.length) = true := decide_eq_true (show 0 < S.length by omega)
      have k0 : (S.length : Int) - 1 = (j : Int) := by omega
      have k1 : (0 : Int) ≤ (j : Int) := by omega
      have k2 : (j : Int) < (S.length : Int) := by omega
      have HL : Hid (decide (tm < y.frm) = false) := HR.out.symm.trans HLT.out
      clear q hj hy HR
      go_quiet (fail)
      go_wp2_with fail
      go_meet
      exact ⟨⟨_, rfl⟩, by first | (rw [HL.out]; done) | rw [← HL.out]⟩
  case rest =>
    obtain ⟨⟨nn, rfl⟩, rfl⟩ := hcut
    have b4 : Below w3.heap.size w3 (w3.drewN nn) := st_drewN (Below.refl _ _) _
    have bA4 := onto bA3 b4
    have z4 := b4.size
    have B4 := B3.below b4 (by omega)
    have O4 := O3.below b4 (by omega)
    have N4 := hidden (N3.out.below b4)
    clear b4
    generalize w3.drewN nn = w4 at *
    have ⟨q4h0, q4h1, q4m0, q4m1, q4m2, q4m3, q4m4, q4m5, q4r0, q4r1, q4f0, q4f1, q4ty⟩ := B4
    have ⟨ob40, ob41, ob4f0, ob4f1, ob4ty⟩ := O4
    obtain ⟨g, c, hgv, hg1, hg2, -, -, -⟩ := N4.out.stay HX.out
    injection hgv with hgv1 hgv0 hgv2
    clear hgv0
    subst hgv1
    subst hgv2
    have HTG : Hid (w1.heap.size ≠ g) := fun e => ne_ty ob4ty (own_T N4.out.2 g rfl) (by decide) e
    have HI1 := hidden (own_in N4.out.1)
    have b5 : Below w4.heap.size w4 (w4.alloc (.cells #[.int .i64 pr, .int .i64 sx, .int .i64 nd, .int .i64 bd, .int .i64 tm, .int .i64 (-1)] 36)) := (Below.refl _ _).alloc (Nat.le_refl _) _
    have bA5 := onto bA4 b5
    have B5 := B4.below b5 (by omega)
    have O5 := O4.below b5 (by omega)
    have N5 := hidden (N4.out.below b5)
    have nb0 : (w4.alloc (.cells #[.int .i64 pr, .int .i64 sx, .int .i64 nd, .int .i64 bd, .int .i64 tm, .int .i64 (-1)] 36)).cell? ⟨w4.heap.size, 0, none⟩ = some (.int .i64 pr) := by simp [go_sem]
    have nb1 : (w4.alloc (.cells #[.int .i64 pr, .int .i64 sx, .int .i64 nd, .int .i64 bd, .int .i64 tm, .int .i64 (-1)] 36)).cell? ⟨w4.heap.size, 1, none⟩ = some (.int .i64 sx) := by simp [go_sem]
    have nb2 : (w4.alloc (.cells #[.int .i64 pr, .int .i64 sx, .int .i64 nd, .int .i64 bd, .int .i64 tm, .int .i64 (-1)] 36)).cell? ⟨w4.heap.size, 2, none⟩ = some (.int .i64 nd) := by simp [go_sem]
    have nb3 : (w4.alloc (.cells #[.int .i64 pr, .int .i64 sx, .int .i64 nd, .int .i64 bd, .int .i64 tm, .int .i64 (-1)] 36)).cell? ⟨w4.heap.size, 3, none⟩ = some (.int .i64 bd) := by simp [go_sem]
    have nb4 : (w4.alloc (.cells #[.int .i64 pr, .int .i64 sx, .int .i64 nd, .int .i64 bd, .int .i64 tm, .int .i64 (-1)] 36)).cell? ⟨w4.heap.size, 4, none⟩ = some (.int .i64 tm) := by simp [go_sem]
    have nb5 : (w4.alloc (.cells #[.int .i64 pr, .int .i64 sx, .int .i64 nd, .int .i64 bd, .int .i64 tm, .int .i64 (-1)] 36)).cell? ⟨w4.heap.size, 5, none⟩ = some (.int .i64 (-1)) := by simp [go_sem]
    have nf1 : (w4.alloc (.cells #[.int .i64 pr, .int .i64 sx, .int .i64 nd, .int .i64 bd, .int .i64 tm, .int .i64 (-1)] 36)).frozen? ⟨w4.heap.size, 1, none⟩ = false := by simp [go_sem]
    have nf2 : (w4.alloc (.cells #[.int .i64 pr, .int .i64 sx, .int .i64 nd, .int .i64 bd, .int .i64 tm, .int .i64 (-1)] 36)).frozen? ⟨w4.heap.size, 2, none⟩ = false := by simp [go_sem]
    have z5 : w4.heap.size < (w4.alloc (.cells #[.int .i64 pr, .int .i64 sx, .int .i64 nd, .int .i64 bd, .int .i64 tm, .int .i64 (-1)] 36)).heap.size := by simp
    clear b5
    generalize hW5 : (w4.alloc (.cells #[.int .i64 pr, .int .i64 sx, .int .i64 nd, .int .i64 bd, .int .i64 tm, .int .i64 (-1)] 36)) = W5 at *
    have ⟨q5h0, q5h1, q5m0, q5m1, q5m2, q5m3, q5m4, q5m5, q5r0, q5r1, q5f0, q5f1, q5ty⟩ := B5
    have ⟨ob50, ob51, ob5f0, ob5f1, ob5ty⟩ := O5
    obtain ⟨g', c', hgv', -, -, ⟨uu, hcu⟩, hfz, hset⟩ := N5.out.stay HX.out
    injection hgv' with hgv1' hgv0' hgv2'
    clear hgv0' hgv2'
    injection hgv1' with hgv1'
    injection hgv1' with hgv1' hgv0' hgv2'
    clear hgv0' hgv2'
    subst hgv1'
    have N6 := hidden (hset tm)
    clear hset
    have bA6 := bA5.setCell (p := ⟨g, k * 6 + 5, none⟩) (by show w.heap.size ≤ g; omega) (.int .i64 tm)
    have B6 := B5.below ((Below.refl (w.heap.size + 1 + 1 + 1) _).setCell (p := ⟨g, k * 6 + 5, none⟩) (by show w.heap.size + 1 + 1 + 1 ≤ g; omega) (.int .i64 tm)) (by omega)
    have O6 := O5.far (j := k * 6 + 5) HTG.out (.int .i64 tm)
    have FA := far (show w4.heap.size ≠ g by omega)
    have ns0 := (FA.1 W5 (k * 6 + 5) 0 (.int .i64 tm)).trans nb0
    have ns1 := (FA.1 W5 (k * 6 + 5) 1 (.int .i64 tm)).trans nb1
    have ns2 := (FA.1 W5 (k * 6 + 5) 2 (.int .i64 tm)).trans nb2
    have ns3 := (FA.1 W5 (k * 6 + 5) 3 (.int .i64 tm)).trans nb3
    have ns4 := (FA.1 W5 (k * 6 + 5) 4 (.int .i64 tm)).trans nb4
    have ns5 := (FA.1 W5 (k * 6 + 5) 5 (.int .i64 tm)).trans nb5
    have ng1 := (FA.2 W5 (k * 6 + 5) 1 (.int .i64 tm)).trans nf1
    have ng2 := (FA.2 W5 (k * 6 + 5) 2 (.int .i64 tm)).trans nf2
    have z6 : w4.heap.size < (W5.setCell ⟨g, k * 6 + 5, none⟩ (.int .i64 tm)).heap.size := by simp; omega
    clear FA
    generalize hW6 : W5.setCell ⟨g, k * 6 + 5, none⟩ (.int .i64 tm) = W6 at *
    have ⟨q6h0, q6h1, q6m0, q6m1, q6m2, q6m3, q6m4, q6m5, q6r0, q6r1, q6f0, q6f1, q6ty⟩ := B6
    have ⟨ob60, ob61, ob6f0, ob6f1, ob6ty⟩ := O6
    have oy1 := (bA6.cell (p := ⟨go, off + k * 6 + 1, none⟩) hgo).trans o1
    have oy2 := (bA6.cell (p := ⟨go, off + k * 6 + 2, none⟩) hgo).trans o2
    have bA7 := bA6.setCell (p := ⟨w4.heap.size, 1, none⟩) (by show w.heap.size ≤ w4.heap.size; omega) (.int .i64 xs)
    have B7 := B6.below ((Below.refl (w.heap.size + 1 + 1 + 1) _).setCell (p := ⟨w4.heap.size, 1, none⟩) (by show w.heap.size + 1 + 1 + 1 ≤ w4.heap.size; omega) (.int .i64 xs)) (by omega)
    have O7 := O6.far (g := w4.heap.size) (j := 1) (by omega) (.int .i64 xs)
    have N7 := hidden (N6.out.ne (p := ⟨w4.heap.size, 1, none⟩) (fun j hj => Nat.ne_of_lt (HI1.out j hj)) (fun j hj => by cases hj; exact Nat.ne_of_lt hg2) (.int .i64 xs))
    have nt0 : (W6.setCell ⟨w4.heap.size, 1, none⟩ (.int .i64 xs)).cell? ⟨w4.heap.size, 0, none⟩ = some (.int .i64 pr) := by simp [go_sem, ns0]
    have nt1 : (W6.setCell ⟨w4.heap.size, 1, none⟩ (.int .i64 xs)).cell? ⟨w4.heap.size, 1, none⟩ = some (.int .i64 xs) := by simp [go_sem, ns1]
    have nt2 : (W6.setCell ⟨w4.heap.size, 1, none⟩ (.int .i64 xs)).cell? ⟨w4.heap.size, 2, none⟩ = some (.int .i64 nd) := by simp [go_sem, ns2]
    have nt3 : (W6.setCell ⟨w4.heap.size, 1, none⟩ (.int .i64 xs)).cell? ⟨w4.heap.size, 3, none⟩ = some (.int .i64 bd) := by simp [go_sem, ns3]
    have nt4 : (W6.setCell ⟨w4.heap.size, 1, none⟩ (.int .i64 xs)).cell? ⟨w4.heap.size, 4, none⟩ = some (.int .i64 tm) := by simp [go_sem, ns4]
    have nt5 : (W6.setCell ⟨w4.heap.size, 1, none⟩ (.int .i64 xs)).cell? ⟨w4.heap.size, 5, none⟩ = some (.int .i64 (-1)) := by simp [go_sem, ns5]
    have nh2 : (W6.setCell ⟨w4.heap.size, 1, none⟩ (.int .i64 xs)).frozen? ⟨w4.heap.size, 2, none⟩ = false := by simp [go_sem, ng2]
    have z7 : w4.heap.size < (W6.setCell ⟨w4.heap.size, 1, none⟩ (.int .i64 xs)).heap.size := by simp; omega
    generalize hW7 : W6.setCell ⟨w4.heap.size, 1, none⟩ (.int .i64 xs) = W7 at *
    have ⟨q7h0, q7h1, q7m0, q7m1, q7m2, q7m3, q7m4, q7m5, q7r0, q7r1, q7f0, q7f1, q7ty⟩ := B7
    have ⟨ob70, ob71, ob7f0, ob7f1, ob7ty⟩ := O7
    have oz1 := (bA7.cell (p := ⟨go, off + k * 6 + 1, none⟩) hgo).trans o1
    have oz2 := (bA7.cell (p := ⟨go, off + k * 6 + 2, none⟩) hgo).trans o2
    have bA8 := bA7.setCell (p := ⟨w4.heap.size, 2, none⟩) (by show w.heap.size ≤ w4.heap.size; omega) (.int .i64 xn)
    have B8 := B7.below ((Below.refl (w.heap.size + 1 + 1 + 1) _).setCell (p := ⟨w4.heap.size, 2, none⟩) (by show w.heap.size + 1 + 1 + 1 ≤ w4.heap.size; omega) (.int .i64 xn)) (by omega)
    have O8 := O7.far (g := w4.heap.size) (j := 2) (by omega) (.int .i64 xn)
    have N8 := hidden (N7.out.ne (p := ⟨w4.heap.size, 2, none⟩) (fun j hj => Nat.ne_of_lt (HI1.out j hj)) (fun j hj => by cases hj; exact Nat.ne_of_lt hg2) (.int .i64 xn))
    have nw0 : (W7.setCell ⟨w4.heap.size, 2, none⟩ (.int .i64 xn)).cell? ⟨w4.heap.size, 0, none⟩ = some (.int .i64 pr) := by simp [go_sem, nt0]
    have nw1 : (W7.setCell ⟨w4.heap.size, 2, none⟩ (.int .i64 xn)).cell? ⟨w4.heap.size, 1, none⟩ = some (.int .i64 xs) := by simp [go_sem, nt1]
    have nw2 : (W7.setCell ⟨w4.heap.size, 2, none⟩ (.int .i64 xn)).cell? ⟨w4.heap.size, 2, none⟩ = some (.int .i64 xn) := by simp [go_sem, nt2]
    have nw3 : (W7.setCell ⟨w4.heap.size, 2, none⟩ (.int .i64 xn)).cell? ⟨w4.heap.size, 3, none⟩ = some (.int .i64 bd) := by simp [go_sem, nt3]
    have nw4 : (W7.setCell ⟨w4.heap.size, 2, none⟩ (.int .i64 xn)).cell? ⟨w4.heap.size, 4, none⟩ = some (.int .i64 tm) := by simp [go_sem, nt4]
    have nw5 : (W7.setCell ⟨w4.heap.size, 2, none⟩ (.int .i64 xn)).cell? ⟨w4.heap.size, 5, none⟩ = some (.int .i64 (-1)) := by simp [go_sem, nt5]
    have z8 : w4.heap.size < (W7.setCell ⟨w4.heap.size, 2, none⟩ (.int .i64 xn)).heap.size := by simp; omega
    generalize hW8 : W7.setCell ⟨w4.heap.size, 2, none⟩ (.int .i64 xn) = W8 at *
    have ⟨q8h0, q8h1, q8m0, q8m1, q8m2, q8m3, q8m4, q8m5, q8r0, q8r1, q8f0, q8f1, q8ty⟩ := B8
    have ⟨ob80, ob81, ob8f0, ob8f1, ob8ty⟩ := O8
    go_wp2_with fail
    exact bodyPost_ret (v := .tuple #[.agg #[.slice a1 B.length c1, .slice (some ⟨g, 0, none⟩) S.length c2], .int .i64 0]) (by simp [results, Try.results40, go_sem, q8r0, q8r1]) rfl ⟨_, _, _, _, _, _, rfl, ((N8.out.base_le (by omega)).ty q8ty (by decide) (by decide) _).ty (q8ty.setCell _ _) (by decide) (by decide) _, (bA8.setCell (p := ⟨w.heap.size + 1 + 1, 0, none⟩) (by show w.heap.size ≤ w.heap.size + 1 + 1; omega) _).setCell (p := ⟨w.heap.size + 1 + 1, 1, none⟩) (by show w.heap.size ≤ w.heap.size + 1 + 1; omega) _⟩

end Go.Proofs.Ytklgadaefngnnaa
