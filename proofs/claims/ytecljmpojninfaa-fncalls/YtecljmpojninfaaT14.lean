/-
  Delta: the program's.
-/
import Derived.Test.YtecljmpojninfaaT13
import Derived.Lib.MinMax
namespace Go.Proofs.Ytecljmpojninfaa
open Go.RowKit Go.Shelf Va Lb
set_option linter.all false
attribute [local go_sem] Oper.semAt_some

theorem keeps_belowT {B : Nat} {W W' : World} (hb : Below W.heap.size W W') : KeepsFrom B W W' := ⟨hb.size, fun k o _ hk _ => (hb.block k (Array.getElem?_eq_some_iff.1 hk).1).trans hk⟩

set_option maxRecDepth 20000 in
set_option maxHeartbeats 1000000 in
theorem idiff_any (r c : Rs) (w : World) : Calls Try.prog 56 #[.agg #[.int .i64 r.v, .int .i64 r.t, .bool r.k], .agg #[.int .i64 c.v, .int .i64 c.t, .bool c.k]] w fun e w' => e = .returned (.int .i64 (max (wrap64 (r.v - c.v)) (wrap64 (c.v - r.v)))) ∧ Below w.heap.size w w' := by
  go_enter Try.func56, Try.ntmps56
  go_wp2
  go_ret
  exact ⟨rfl, by repeat (first | exact Below.refl _ _ | assumption | refine st_drew ?_ | refine st_drewN ?_ _ | refine Below.setCell ?_ (by first | omega | (simp; done) | (simp; omega)) _ | refine Below.alloc ?_ (by first | omega | (simp; done) | (simp; omega)) _)⟩

set_option maxRecDepth 100000 in
set_option maxHeartbeats 8000000 in
theorem idelta_in (F : Fence) (n : Nat) (hF : ∀ f, F.fn f) (hro : F.round = none) (hn : 4 ≤ n) (ao : Option Addr) (cap : Nat) (S : List Rs) (m wi : Int) (w : World) (h : VRw 3 cvRs w (.slice ao S.length cap) S) (hl2 : S.length ≤ 1048576) (hm0 : 0 ≤ m) (hw0 : 0 ≤ wi)
    (hDf : ∀ (r c : Rs) (W : World), CallsIn F (n - 1 - 1 - 1) Try.prog 56 #[.agg #[.int .i64 r.v, .int .i64 r.t, .bool r.k], .agg #[.int .i64 c.v, .int .i64 c.t, .bool c.k]] W fun e w' => e = .returned (.int .i64 (max (wrap64 (r.v - c.v)) (wrap64 (c.v - r.v)))) ∧ Below W.heap.size W w')
    (hR : ∀ W, VRw 3 cvRs W (.slice ao S.length cap) S → CallsIn F (n - 1) Try.prog 53 #[.slice ao S.length cap] W fun e w' => e = .returned (.bool true) ∧ Below W.heap.size W w') :
    CallsIn F n Try.prog 28 #[.slice ao S.length cap, .int .i64 m, .int .i64 wi] w fun e W' => ∃ v', e = .returned v' ∧ VOwn 1 cvI W' w.heap.size v' (ddOf m wi (knTo S S.length)).2 ∧ Below w.heap.size w W' := by
  have HH := hidden h
  have h1 : 1 ≤ n := by omega
  obtain ⟨i0, hi0, hv0, hv1, hv2⟩ := info_partsW infoW64
  have bA : Below w.heap.size w ((((w.alloc (.cells #[.int .i64 m] 2)).alloc (.cells #[.int .i64 wi] 2)).alloc (.cells #[] 2)).alloc (.cells #[.slice (some ⟨w.heap.size + 1 + 1, 0, none⟩) 0 0] 24)) := by repeat (first | exact Below.refl _ _ | assumption | refine st_drew ?_ | refine st_drewN ?_ _ | refine Below.setCell ?_ (by first | omega | (simp; done) | (simp; omega)) _ | refine Below.alloc ?_ (by first | omega | (simp; done) | (simp; omega)) _)
  have hRa := hR _ (h.below bA)
  have P4 : PB ((((w.alloc (.cells #[.int .i64 m] 2)).alloc (.cells #[.int .i64 wi] 2)).alloc (.cells #[] 2)).alloc (.cells #[.slice (some ⟨w.heap.size + 1 + 1, 0, none⟩) 0 0] 24)) w.heap.size #[.int .i64 m] 2 := (((PB.new w _ _).alloc _).alloc _).alloc _
  have P5 : PB ((((w.alloc (.cells #[.int .i64 m] 2)).alloc (.cells #[.int .i64 wi] 2)).alloc (.cells #[] 2)).alloc (.cells #[.slice (some ⟨w.heap.size + 1 + 1, 0, none⟩) 0 0] 24)) (w.heap.size + 1) #[.int .i64 wi] 2 := by
    have := ((PB.new (w.alloc (.cells #[.int .i64 m] 2)) #[.int .i64 wi] 2).alloc (.cells #[] 2)).alloc (.cells #[.slice (some ⟨w.heap.size + 1 + 1, 0, none⟩) 0 0] 24)
    rw [World.size_alloc] at this; exact this
  have P7 : PB ((((w.alloc (.cells #[.int .i64 m] 2)).alloc (.cells #[.int .i64 wi] 2)).alloc (.cells #[] 2)).alloc (.cells #[.slice (some ⟨w.heap.size + 1 + 1, 0, none⟩) 0 0] 24)) (w.heap.size + 1 + 1 + 1) #[.slice (some ⟨w.heap.size + 1 + 1, 0, none⟩) 0 0] 24 := by
    have := PB.new (((w.alloc (.cells #[.int .i64 m] 2)).alloc (.cells #[.int .i64 wi] 2)).alloc (.cells #[] 2)) #[.slice (some ⟨w.heap.size + 1 + 1, 0, none⟩) 0 0] 24
    rw [World.size_alloc, World.size_alloc, World.size_alloc] at this; exact this
  have PO : ((((w.alloc (.cells #[.int .i64 m] 2)).alloc (.cells #[.int .i64 wi] 2)).alloc (.cells #[] 2)).alloc (.cells #[.slice (some ⟨w.heap.size + 1 + 1, 0, none⟩) 0 0] 24)).ownsRow (w.heap.size + 1 + 1) 2 1 (.slice (some ⟨w.heap.size + 1 + 1, 0, none⟩) 0 0) 0 [] := by
    have := ownW_new ((w.alloc (.cells #[.int .i64 m] 2)).alloc (.cells #[.int .i64 wi] 2)) 2 1
    rw [World.size_alloc, World.size_alloc] at this
    exact ownW_below this ((Below.refl _ _).alloc (Nat.le_refl _) _)
  have HRa := hidden hRa
  have HP := hidden (And.intro P4 (And.intro P5 (And.intro P7 (And.intro PO bA))))
  clear h hR hRa P4 P5 P7 PO bA
  refine callsIn_of_wp_marks Try.func28 rfl (hF _) ?_ hro
  simp only [Try.ntmps28, List.size_toArray, List.length_cons, List.length_nil, Nat.reduceAdd, Nat.reduceSub, Array.replicate_succ, Array.replicate_zero, List.push_toArray, List.append_toArray, List.nil_append, List.cons_append]
  have HG1 : ¬ m < 0 := by omega
  have HG2 : ¬ wi < 0 := by omega
  have HDF := hidden hDf
  clear hDf
  gi_wp2_with (first | (gi_at_call 53; refine HRa.out.mono ?_; rintro e w1 ⟨rfl, hb1⟩; have c4 := (HP.out.1.below hb1).cell 0; have c5 := (HP.out.2.1.below hb1).cell 0) | (gi_at_call 54; refine (known_in F (n - 1) hF hro _ _ _ _).mono ?_; rintro e w' ⟨rfl, rfl⟩))
  clear c4 c5
  have hbz := hb1
  obtain ⟨P4, P5, P7, PO, bA⟩ := HP.out
  have b1 := onto bA hb1
  have C1 : CI w w.heap.size (w.heap.size + 1) (w.heap.size + 1 + 1 + 1) w1.heap.size (w1.heap.size + 1) m wi (.slice ao S.length cap) (⟨0, 0, false⟩, []) ((w1.alloc (.cells #[.int .i64 0, .int .i64 0, .bool false] 46)).alloc (.cells #[.slice ao S.length cap] 41)) := by
    refine ⟨((P4.below hb1).alloc _).alloc _, ((P5.below hb1).alloc _).alloc _, ⟨_, _, ((P7.below hb1).alloc _).alloc _, ownW_below (ownW_below (ownW_below PO hb1) ((Below.refl _ _).alloc (Nat.le_refl _) _)) ((Below.refl _ _).alloc (Nat.le_refl _) _)⟩, (PB.new w1 _ _).alloc _, ?_, (b1.alloc b1.size _).alloc (by simp; have := b1.size; omega) _⟩
    have := PB.new (w1.alloc (.cells #[.int .i64 0, .int .i64 0, .bool false] 46)) #[.slice ao S.length cap] 41
    rw [World.size_alloc] at this; exact this
  have hz1 := b1.size
  clear P4 P5 P7 PO bA HP HRa hb1 hbz
  obtain ⟨WR, hWR⟩ : ∃ WR, WR = (w1.alloc (.cells #[.int .i64 0, .int .i64 0, .bool false] 46)).alloc (.cells #[.slice ao S.length cap] 41) := ⟨_, rfl⟩
  rw [← hWR] at C1 ⊢
  have hzR : w.heap.size + 1 + 1 + 1 < WR.heap.size := C1.row.elim fun _ h => h.elim fun _ h => h.1.lt
  have hz8 : w.heap.size ≤ w1.heap.size := hz1
  clear hWR b1
  refine wpIn_rangeFunc_ownH hro h1 (gf := 69) (lb := #[.pointer (some ⟨w1.heap.size + 1, 0, none⟩)]) rfl (hF _) (enters_of Try.func69 (by kernel_rfl) rfl)
    (known_stops F (n - 1) hF hro (by omega) (w1.heap.size + 1) cap ao S hl2 w WR C1.below C1.bs HH.out) KpK.t (KpK.b (by omega)) (Below.refl _ _) (fun _ => rfl)
    (fun pre W => CI w w.heap.size (w.heap.size + 1) (w.heap.size + 1 + 1 + 1) w1.heap.size (w1.heap.size + 1) m wi (.slice ao S.length cap) (ddOf m wi pre) W)
    (fun c q W => False)
    (CI.from (by omega) (ddOf m wi))
    (fun c => fun s W W' row hs _ _ => hs.elim)
    C1
    (fun x a' W => ∃ Bx, PB W Bx #[.int .i64 x.2.v, .int .i64 x.2.t, .bool x.2.k] 46 ∧ a' = { tmps := #[.slice ao S.length cap, .int .i64 m, .int .i64 wi, undef, .pointer (some ⟨w.heap.size, 0, none⟩), .pointer (some ⟨w.heap.size + 1, 0, none⟩), .slice none 0 0, .pointer (some ⟨w.heap.size + 1 + 1 + 1, 0, none⟩), .pointer (some ⟨w1.heap.size, 0, none⟩), .int .i64 x.1, .pointer (some ⟨Bx, 0, none⟩), undef, .slice (some ⟨w.heap.size + 1 + 1, 0, none⟩) 0 0, .slice ao S.length cap, .bool true, .bool false, .bool false, .int .i64 m, .bool (decide (m < 0)), .bool (decide (m < 0)), .bool (decide (m < 0)), .int .i64 wi, .bool (decide (wi < 0)), .bool (decide (m < 0) || decide (wi < 0)), undef, .agg #[.int .i64 0, .int .i64 0, .bool false], .slice ao S.length cap, .func (.func 69) #[] #[.pointer (some ⟨w1.heap.size + 1, 0, none⟩)], .int .i64 x.1, .agg #[.int .i64 x.2.v, .int .i64 x.2.t, .bool x.2.k], undef, undef, undef, undef, undef, undef, undef, undef, undef, undef, undef, undef, undef, undef, undef, undef, undef, undef, undef, undef, undef, undef, undef, undef, undef], defers := [] })
    (fun x a' => fun _ W W' row hs hg hr => by obtain ⟨Bx, q1, q2⟩ := hs; exact ⟨Bx, q1.kept hg (fun r e => (hr r e).2), q2⟩)
    ?assign ?body ?done ?stop
  case assign =>
    rintro l pre x W K hI hK
    unfold encR aRs
    have HI := hidden hI
    have HK := hidden hK
    clear hI hK C1
    gi_wp2
    exact HK.out _ _ ((KeepsOthers.alloc _ _).from _) (KpK.grow ((Below.refl _ W).alloc (Nat.le_refl _) _) HI.out.below.size) (HI.out.alloc _) ⟨W.heap.size, PB.new _ _ _, rfl⟩
  case body =>
    rintro l pre x a' W hl ⟨r, hr⟩ hI ⟨Bx, hx, rfl⟩ hlen
    have HS : Hid (ddOf m wi (pre ++ [x]) = ddStep m wi (ddOf m wi pre) x) := ddOf_snoc m wi pre x
    have hLl : (ddOf m wi pre).2.length ≤ 1048576 := Nat.le_trans (dd_lenOf m wi pre) (by omega)
    obtain ⟨xi, xv, xt, xk⟩ := x
    generalize ddOf m wi pre = s at hI HS hLl
    obtain ⟨⟨cv, ct, ck⟩, L⟩ := s
    dsimp only at hI HS hLl hx
    dsimp only
    obtain ⟨ad, cc, q1, q2⟩ := hI.row
    dsimp only at q1 q2
    have d4 : W.cell? ⟨w.heap.size, 0, none⟩ = some (.int .i64 m) := hI.b4.cell 0
    have d5 : W.cell? ⟨w.heap.size + 1, 0, none⟩ = some (.int .i64 wi) := hI.b5.cell 0
    obtain ⟨e0, e1, e2⟩ := hI.b8.three
    obtain ⟨x0, x1, x2⟩ := hx.three
    have d7 : W.cell? ⟨w.heap.size + 1 + 1 + 1, 0, none⟩ = some (.slice ad L.length cc) := q1.cell 0
    dsimp only at e0 e1 e2
    have HI := hidden hI
    have HX := hidden hx
    have HQ := hidden (And.intro q1 q2)
    have hbW := hI.below.size
    have hb7 := q1.lt
    clear hr hl hI hx q1 q2 C1 HH
    have bl : (KeepsFrom WR.heap.size W W ∧ KpK w.heap.size (w1.heap.size + 1) W W) := ⟨KeepsFrom.refl _ _, ⟨Below.refl _ _, fun _ _ q => q⟩⟩
    have FN : Hid (∀ (L2 : List Int) (W' : World), ddOf m wi (pre ++ [(xi, ⟨xv, xt, xk⟩)]) = (⟨xv, xt, xk⟩, L2) → KeepsFrom WR.heap.size W W' → KpK w.heap.size (w1.heap.size + 1) W W' → CI w w.heap.size (w.heap.size + 1) (w.heap.size + 1 + 1 + 1) w1.heap.size (w1.heap.size + 1) m wi (.slice ao S.length cap) (⟨cv, ct, ck⟩, L2) W' → (KeepsFrom WR.heap.size W (((W'.setCell ⟨w1.heap.size, 0, none⟩ (.int .i64 xv)).setCell ⟨w1.heap.size, 1, none⟩ (.int .i64 xt)).setCell ⟨w1.heap.size, 2, none⟩ (.bool xk)) ∧ KpK w.heap.size (w1.heap.size + 1) W (((W'.setCell ⟨w1.heap.size, 0, none⟩ (.int .i64 xv)).setCell ⟨w1.heap.size, 1, none⟩ (.int .i64 xt)).setCell ⟨w1.heap.size, 2, none⟩ (.bool xk)) ∧ CI w w.heap.size (w.heap.size + 1) (w.heap.size + 1 + 1 + 1) w1.heap.size (w1.heap.size + 1) m wi (.slice ao S.length cap) (ddOf m wi (pre ++ [(xi, ⟨xv, xt, xk⟩)])) (((W'.setCell ⟨w1.heap.size, 0, none⟩ (.int .i64 xv)).setCell ⟨w1.heap.size, 1, none⟩ (.int .i64 xt)).setCell ⟨w1.heap.size, 2, none⟩ (.bool xk)))) := by
      intro L2 W' e hk1 hk2 hc
      have nk := hc.note_keeps ⟨xv, xt, xk⟩ (by omega)
      exact ⟨hk1.trans (nk.2.from _), hk2.t nk.1, by rw [e]; exact hc.note (by omega) ⟨xv, xt, xk⟩ (by omega)⟩
    obtain ⟨u0, u1, u2, -⟩ := HI.out.b8.cold
    have hmo : Try.prog.follows .mixedOrders = true := by kernel_rfl
    have h2n : 1 ≤ n - 1 - 1 := by omega
    have h3n : 1 ≤ n - 1 - 1 - 1 := by omega
    cases hnr : (ck && decide (wrap64 (xt - ct) ≤ wi)) with
    | false =>
      have HE : Hid (ddOf m wi (pre ++ [(xi, ⟨xv, xt, xk⟩)]) = (⟨xv, xt, xk⟩, L)) := by rw [Hid, HS.out]; unfold ddStep ddB; simp only [hnr, Bool.false_and, Bool.false_eq_true, if_false]
      clear HS
      have hbD : Below W.heap.size W W.drew := st_drew (Below.refl _ _)
      have hfin := FN.out L W.drew HE.out (keeps_belowT hbD) (KpK.grow hbD hbW) (HI.out.grow hbD)
      have FF := hidden hfin
      clear hfin FN HE
      cases ck with
      | false =>
        clear hnr
        gi_wp2
        gi_region_with_o (fail)
        all_goals gi_wp2
        all_goals exact FF.out
      | true =>
        have qw : ¬ wrap64 (xt - ct) ≤ wi := by simpa using hnr
        clear hnr
        gi_wp2
        gi_region_with_o (fail)
        all_goals gi_wp2
        all_goals exact FF.out
    | true =>
      have hc : ck = true ∧ wrap64 (xt - ct) ≤ wi := by simpa using hnr
      obtain ⟨rfl, qw⟩ := hc
      have HDx := hidden (HDF.out ⟨xv, xt, xk⟩ ⟨cv, ct, true⟩)
      dsimp only at HDx
      have HE : Hid (ddOf m wi (pre ++ [(xi, ⟨xv, xt, xk⟩)]) = (⟨xv, xt, xk⟩, if m < max (wrap64 (xv - cv)) (wrap64 (cv - xv)) then L ++ [(xi : Int)] else L)) := by
        rw [Hid, HS.out]; unfold ddStep ddB
        dsimp only at hnr ⊢
        rw [hnr, Bool.true_and]
        by_cases q : m < max (wrap64 (xv - cv)) (wrap64 (cv - xv))
        · rw [if_pos q, decide_eq_true q]; rfl
        · rw [if_neg q, decide_eq_false q]; rfl
      clear HS hnr u0 u1 u2 HDF
      generalize max (wrap64 (xv - cv)) (wrap64 (cv - xv)) = D at *
      by_cases qD : m < D
      · have HE2 : Hid (ddOf m wi (pre ++ [(xi, ⟨xv, xt, xk⟩)]) = (⟨xv, xt, xk⟩, L ++ [(xi : Int)])) := by rw [Hid, HE.out, if_pos qD]
        clear HE
        gi_wp2
        gi_region_with_o (gi_at_call 56; refine (CallsIn.inRound l (HDx.out _)).mono ?_; rintro e w6 ⟨rfl, hb6⟩; have b6 := onto (st_drew (Below.refl W.heap.size W)) hb6; have HI6 := hidden (HI.out.grow b6); have HX6 := hidden (HX.out.below b6); have HQ6 := hidden (And.intro (HQ.out.1.below b6) (ownW_below HQ.out.2 b6)); have d46 : w6.cell? ⟨w.heap.size, 0, none⟩ = some (.int .i64 m) := HI6.out.b4.cell 0; have d76 : w6.cell? ⟨w.heap.size + 1 + 1 + 1, 0, none⟩ = some (.slice ad L.length cc) := HQ6.out.1.cell 0; obtain ⟨x60, x61, x62⟩ := HX6.out.three; have hb76 := HQ6.out.1.lt)
        all_goals gi_wp2_with (gi_at_builtin; refine wpListIn_append_own _ rfl (.tmp 49) (.tmp 51) 24 rfl (w.heap.size + 1 + 1) 2 i0 (.int .i64 0) 1 8 Try.underlying24 hi0 hv0 hv1 hv2 rfl (by decide) (.slice ad L.length cc) L.length (L.map fun z => Value.int .i64 z) rfl (ownW_below HQ6.out.2 ((Below.refl _ w6).alloc (Nat.le_refl _) _)) ⟨w6.heap.size, 0, none⟩ 1 1 [.int .i64 (xi : Int)] rfl rfl (cell_oneW _ _ _) (by simp [Value.oneCell']) (by unfold maxLen; omega) (by omega) (by simp; omega) ?_; intro v5 w5 ho5 hg5 hn5; obtain ⟨ad5, c5, rfl⟩ := ownW_slice ho5; have hp7 := PB.mid HQ6.out.1 HQ6.out.2 (by decide) hg5; have hpx := PB.mid HX6.out HQ6.out.2 (by decide) hg5; have n7x := pb_ne hp7 hpx (by decide); have k7 : w5.cell? ⟨w.heap.size + 1 + 1 + 1, 0, none⟩ = some (.slice ad L.length cc) := hp7.cell 0; have f7 := hp7.frozen 0; have KT := hidden (HI6.out.push (by omega) (by omega) (by omega) HQ6.out.1 HQ6.out.2 ho5 hg5); have hpx6 := hpx.far n7x 0 (.slice ad5 (L.length + 1) c5); obtain ⟨y0, y1, y2⟩ := hpx6.three; obtain ⟨z0, z1, z2⟩ := KT.out.1.b8.three; obtain ⟨u0, u1, u2, -⟩ := KT.out.1.b8.cold; dsimp only at z0 z1 z2; clear hpx6 hpx hp7 n7x ho5)
        all_goals exact FN.out (L ++ [(xi : Int)]) _ HE2.out ((keeps_belowT b6).trans (KT.out.2.2.from _)) ((KpK.grow b6 hbW).t KT.out.2.1) KT.out.1
      · have HE2 : Hid (ddOf m wi (pre ++ [(xi, ⟨xv, xt, xk⟩)]) = (⟨xv, xt, xk⟩, L)) := by rw [Hid, HE.out, if_neg qD]
        clear HE
        gi_wp2
        gi_region_with_o (gi_at_call 56; refine (CallsIn.inRound l (HDx.out _)).mono ?_; rintro e w6 ⟨rfl, hb6⟩; have b6 := onto (st_drew (Below.refl W.heap.size W)) hb6; have HI6 := hidden (HI.out.grow b6); have HX6 := hidden (HX.out.below b6); have HQ6 := hidden (And.intro (HQ.out.1.below b6) (ownW_below HQ.out.2 b6)); have d46 : w6.cell? ⟨w.heap.size, 0, none⟩ = some (.int .i64 m) := HI6.out.b4.cell 0; have d76 : w6.cell? ⟨w.heap.size + 1 + 1 + 1, 0, none⟩ = some (.slice ad L.length cc) := HQ6.out.1.cell 0; obtain ⟨x60, x61, x62⟩ := HX6.out.three; have hb76 := HQ6.out.1.lt; have z6 := (HI6.out.b8).three; obtain ⟨z0, z1, z2⟩ := z6; obtain ⟨u0, u1, u2, -⟩ := HI6.out.b8.cold; dsimp only at z0 z1 z2)
        all_goals gi_wp2
        all_goals exact FN.out L _ HE2.out (keeps_belowT b6) (KpK.grow b6 hbW) HI6.out
  case done =>
    rintro D ys W hD rfl hI hK
    obtain ⟨ad, cc, q1, q2⟩ := hI.row
    have d7 : W.cell? ⟨w.heap.size + 1 + 1 + 1, 0, none⟩ = some (.slice ad (ddOf m wi (knTo S S.length)).2.length cc) := q1.cell 0
    have hI2 := hI.kept (grownBy_putObj' W D (.deferred none)) (fun r e => by cases e; exact ⟨by omega, _, hK, rfl⟩)
    have q3 := ownsRow_keptT q2 (grownBy_putObj' W D (.deferred none)) (fun r e => by cases e; exact ⟨_, hK, rfl⟩)
    have HI2 := hidden (And.intro hI2 (And.intro q3 hK))
    clear hI hI2 q1 q2 q3 C1 HH
    gi_wp2
    refine ⟨by simp, .inl ⟨_, _, rfl, run_takeDeferred HI2.out.2.2, ?_⟩⟩
    exact ⟨.slice ad (ddOf m wi (knTo S S.length)).2.length cc, by simp [results, Try.results28, go_sem], _, rfl, vownI (ownW_base HI2.out.2.1 (Nat.le_succ_of_le (Nat.le_succ _))), HI2.out.1.below⟩
  case stop =>
    rintro D c q W hD _ hFalse hK
    exact hFalse.elim

theorem idelta_any (ao : Option Addr) (n cap : Nat) (l : List Rs) (m wi : Int) (w : World) (h : VRw 3 cvRs w (.slice ao n cap) l) (hn : l.length ≤ 1048576) :
    Calls Try.prog 28 #[.slice ao n cap, .int .i64 m, .int .i64 wi] w fun e w' => ∃ v', e = .returned v' ∧ VOwn 1 cvI w' w.heap.size v' (delta l m wi) ∧ Below w.heap.size w w' := by
  obtain rfl := h.len
  by_cases g : ResOk l ∧ 0 ≤ m ∧ 0 ≤ wi
  · obtain ⟨g0, g1, g2⟩ := g
    have hV : delta l m wi = (ddOf m wi (knTo l l.length)).2 := by rw [dd_delta g0]; unfold delta; rw [if_pos ⟨g0, g1, g2⟩]
    rw [hV]
    exact (callsIn_wide (n := 4)).1 (idelta_in Fence.wide 4 (fun _ => trivial) rfl (by omega) ao cap l m wi w h hn g1 g2 (fun r c W => callsIn_wide.2 (idiff_any r c W)) (fun W hW => callsIn_wide.2 (by have := ires_any ao l.length cap l W hW hn; rw [decide_eq_true g0] at this; exact this)))
  · have HN : Hid (delta l m wi = []) := by unfold delta; rw [if_neg g]; rfl
    have bA : Below w.heap.size w ((((w.alloc (.cells #[.int .i64 m] 2)).alloc (.cells #[.int .i64 wi] 2)).alloc (.cells #[] 2)).alloc (.cells #[.slice (some ⟨w.heap.size + 1 + 1, 0, none⟩) 0 0] 24)) := by repeat (first | exact Below.refl _ _ | assumption | refine st_drew ?_ | refine st_drewN ?_ _ | refine Below.setCell ?_ (by first | omega | (simp; done) | (simp; omega)) _ | refine Below.alloc ?_ (by first | omega | (simp; done) | (simp; omega)) _)
    have hK := ires_any ao l.length cap l _ (h.below bA) hn
    have P4 : PB ((((w.alloc (.cells #[.int .i64 m] 2)).alloc (.cells #[.int .i64 wi] 2)).alloc (.cells #[] 2)).alloc (.cells #[.slice (some ⟨w.heap.size + 1 + 1, 0, none⟩) 0 0] 24)) w.heap.size #[.int .i64 m] 2 := (((PB.new w _ _).alloc _).alloc _).alloc _
    have P5 : PB ((((w.alloc (.cells #[.int .i64 m] 2)).alloc (.cells #[.int .i64 wi] 2)).alloc (.cells #[] 2)).alloc (.cells #[.slice (some ⟨w.heap.size + 1 + 1, 0, none⟩) 0 0] 24)) (w.heap.size + 1) #[.int .i64 wi] 2 := by
      have := ((PB.new (w.alloc (.cells #[.int .i64 m] 2)) #[.int .i64 wi] 2).alloc (.cells #[] 2)).alloc (.cells #[.slice (some ⟨w.heap.size + 1 + 1, 0, none⟩) 0 0] 24)
      rw [World.size_alloc] at this; exact this
    have P7 : PB ((((w.alloc (.cells #[.int .i64 m] 2)).alloc (.cells #[.int .i64 wi] 2)).alloc (.cells #[] 2)).alloc (.cells #[.slice (some ⟨w.heap.size + 1 + 1, 0, none⟩) 0 0] 24)) (w.heap.size + 1 + 1 + 1) #[.slice (some ⟨w.heap.size + 1 + 1, 0, none⟩) 0 0] 24 := by
      have := PB.new (((w.alloc (.cells #[.int .i64 m] 2)).alloc (.cells #[.int .i64 wi] 2)).alloc (.cells #[] 2)) #[.slice (some ⟨w.heap.size + 1 + 1, 0, none⟩) 0 0] 24
      rw [World.size_alloc, World.size_alloc, World.size_alloc] at this; exact this
    have HP := hidden (And.intro P7 (And.intro bA (And.intro P4 P5)))
    have HKK := hidden hK
    clear h hK P7 P4 P5 bA
    by_cases g0 : ResOk l
    · rw [decide_eq_true g0] at HKK
      by_cases g1 : m < 0
      · clear g g0
        go_enter Try.func28, Try.ntmps28
        go_wp2_with (go_at_call 53; refine HKK.out.mono ?_; rintro e w1 ⟨rfl, hb1⟩; have c7 := (HP.out.1.below hb1).cell 0; have c4 := (HP.out.2.2.1.below hb1).cell 0; have c5 := (HP.out.2.2.2.below hb1).cell 0)
        go_ret
        rw [HN.out]
        exact ⟨_, rfl, VOwn.nil _ _ _ _, onto HP.out.2.1 hb1⟩
      · have g2 : wi < 0 := by
          rcases Int.lt_or_le wi 0 with q | q
          · exact q
          · exact absurd ⟨g0, by omega, q⟩ g
        clear g g0
        go_enter Try.func28, Try.ntmps28
        go_wp2_with (go_at_call 53; refine HKK.out.mono ?_; rintro e w1 ⟨rfl, hb1⟩; have c7 := (HP.out.1.below hb1).cell 0; have c4 := (HP.out.2.2.1.below hb1).cell 0; have c5 := (HP.out.2.2.2.below hb1).cell 0)
        go_ret
        rw [HN.out]
        exact ⟨_, rfl, VOwn.nil _ _ _ _, onto HP.out.2.1 hb1⟩
    · rw [decide_eq_false g0] at HKK
      clear g g0
      go_enter Try.func28, Try.ntmps28
      go_wp2_with (go_at_call 53; refine HKK.out.mono ?_; rintro e w1 ⟨rfl, hb1⟩; have c7 := (HP.out.1.below hb1).cell 0; have c4 := (HP.out.2.2.1.below hb1).cell 0; have c5 := (HP.out.2.2.2.below hb1).cell 0)
      go_ret
      rw [HN.out]
      exact ⟨_, rfl, VOwn.nil _ _ _ _, onto HP.out.2.1 hb1⟩
end Go.Proofs.Ytecljmpojninfaa
