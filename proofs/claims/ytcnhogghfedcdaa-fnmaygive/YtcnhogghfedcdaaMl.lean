/-
  What may be given: the program.
-/
import Derived.Test.YtcnhogghfedcdaaMf
import Derived.Test.YtcnhogghfedcdaaMk
namespace Go.Proofs.Ytcnhogghfedcdaa
open Go.RowKit Va Ga
set_option linter.unusedVariables false

theorem gvB_of {x : Dg} {t a : Int} (h : drugB x = true) : gvB ⟨x.id, t, a⟩ = (rng t 0 10000000 && rng a 1 1000000000) := by
  simp only [drugB, headB, Bool.and_eq_true] at h
  unfold gvB
  rw [h.1.1]
  rfl

set_option maxRecDepth 20000 in
set_option maxHeartbeats 8000000 in
theorem imay_any (x : Dg) (ta : Option Addr) (n tc : Nat) (ao : Option Addr) (len cap : Nat) (G : List Gv) (t a : Int) (w : World) (h : IRw w (.slice ta n tc) x.cls) (hn : x.cls.length ≤ 1048576) (h' : Rw 3 csGv w (.slice ao len cap) G) (hl : G.length ≤ 1048576) :
    Calls Try.prog 18 #[aD x (.slice ta n tc), .slice ao len cap, .int .i64 t, .int .i64 a] w fun e w' => e = .returned (.tuple #[.bool (mayG x G t a).1, .int .i64 (mayG x G t a).2]) ∧ Below w.heap.size w w' := by
  have hb0 : Below w.heap.size w ((w.alloc (.cells #[.int .i64 x.id, .slice ta n tc, .int .i64 x.pk, .int .i64 x.most, .int .i64 x.day, .int .i64 x.kid] 26)).alloc (.cells #[.int .i64 x.id, .int .i64 t, .int .i64 a] 49)) := ((Below.refl _ _).alloc (Nat.le_refl _) _).alloc (by simp) _
  have HPX := hidden ((PB.new w #[.int .i64 x.id, .slice ta n tc, .int .i64 x.pk, .int .i64 x.most, .int .i64 x.day, .int .i64 x.kid] 26).alloc (.cells #[.int .i64 x.id, .int .i64 t, .int .i64 a] 49))
  have HPD := hidden (PB.new (w.alloc (.cells #[.int .i64 x.id, .slice ta n tc, .int .i64 x.pk, .int .i64 x.most, .int .i64 x.day, .int .i64 x.kid] 26)) #[.int .i64 x.id, .int .i64 t, .int .i64 a] 49)
  simp only [World.size_alloc] at HPD
  have k1 := fun W hW => idrugok_any x ta n tc W hW hn
  have k2 := fun W hW => igvs_any ao len cap G W hW hl
  have k3 := fun W => igv_any ⟨x.id, t, a⟩ W
  have h1 := h.below hb0
  have h2 := h'.below hb0
  have HH := hidden (fun W (hW : Below ((w.alloc (.cells #[.int .i64 x.id, .slice ta n tc, .int .i64 x.pk, .int .i64 x.most, .int .i64 x.day, .int .i64 x.kid] 26)).alloc (.cells #[.int .i64 x.id, .int .i64 t, .int .i64 a] 49)).heap.size ((w.alloc (.cells #[.int .i64 x.id, .slice ta n tc, .int .i64 x.pk, .int .i64 x.most, .int .i64 x.day, .int .i64 x.kid] 26)).alloc (.cells #[.int .i64 x.id, .int .i64 t, .int .i64 a] 49)) W) => h1.below hW)
  have HL := hidden (fun W (hW : Below ((w.alloc (.cells #[.int .i64 x.id, .slice ta n tc, .int .i64 x.pk, .int .i64 x.most, .int .i64 x.day, .int .i64 x.kid] 26)).alloc (.cells #[.int .i64 x.id, .int .i64 t, .int .i64 a] 49)).heap.size ((w.alloc (.cells #[.int .i64 x.id, .slice ta n tc, .int .i64 x.pk, .int .i64 x.most, .int .i64 x.day, .int .i64 x.kid] 26)).alloc (.cells #[.int .i64 x.id, .int .i64 t, .int .i64 a] 49)) W) => h2.below hW)
  have HBW := hidden (fun W (hW : Below ((w.alloc (.cells #[.int .i64 x.id, .slice ta n tc, .int .i64 x.pk, .int .i64 x.most, .int .i64 x.day, .int .i64 x.kid] 26)).alloc (.cells #[.int .i64 x.id, .int .i64 t, .int .i64 a] 49)).heap.size ((w.alloc (.cells #[.int .i64 x.id, .slice ta n tc, .int .i64 x.pk, .int .i64 x.most, .int .i64 x.day, .int .i64 x.kid] 26)).alloc (.cells #[.int .i64 x.id, .int .i64 t, .int .i64 a] 49)) W) => onto hb0 hW)
  have HDo := hidden (fun W (hW : Below ((w.alloc (.cells #[.int .i64 x.id, .slice ta n tc, .int .i64 x.pk, .int .i64 x.most, .int .i64 x.day, .int .i64 x.kid] 26)).alloc (.cells #[.int .i64 x.id, .int .i64 t, .int .i64 a] 49)).heap.size ((w.alloc (.cells #[.int .i64 x.id, .slice ta n tc, .int .i64 x.pk, .int .i64 x.most, .int .i64 x.day, .int .i64 x.kid] 26)).alloc (.cells #[.int .i64 x.id, .int .i64 t, .int .i64 a] 49)) W) (hg : G.length ≤ 500) => idoses_any x.id ao len cap G W (h2.below hW) hg)
  have HE : Hid (okG x G t a = (drugB x && (gsB G && gvB ⟨x.id, t, a⟩))) := by
    rw [Hid]
    unfold okG
    cases hq : drugB x with
    | false => rfl
    | true => rw [gvB_of hq]
  have HR0 : Hid ((drugB x && (gsB G && gvB ⟨x.id, t, a⟩)) = false → mayG x G t a = (false, 0)) := fun hh => by
    unfold mayG
    rw [HE.out, hh]
    rfl
  have HR1 : Hid ((drugB x && (gsB G && gvB ⟨x.id, t, a⟩)) = true → mayG x G t a = if great x.id t a G ≤ x.day then (true, 0) else (false, great x.id t a G)) := fun hh => by
    unfold mayG
    rw [HE.out, hh]
    rfl
  have HG : Hid (gsB G = true → G.length ≤ 500 ∧ (gvB ⟨x.id, t, a⟩ = true → ∀ (b c : Nat) (S : List Gv) (W : World), S.Perm (mine x.id G) → Srt S → Rw 3 csGv W (.slice (some ⟨b, 0, none⟩) S.length c) S → Calls Try.prog 47 #[.slice (some ⟨b, 0, none⟩) S.length c, .agg #[.int .i64 x.id, .int .i64 t, .int .i64 a]] W fun e w' => e = .returned (.int .i64 (great x.id t a G)) ∧ Below W.heap.size W w')) := fun hh => by
    simp only [gsB, Bool.and_eq_true, decide_eq_true_eq, List.all_eq_true] at hh
    refine ⟨hh.1, fun hd b c S W hp hs hr => ?_⟩
    have hlen : S.length ≤ 500 := by
      have e1 := hp.length_eq
      have e2 : (mine x.id G).length ≤ G.length := List.length_filter_le _ _
      omega
    have hk := igreat_any b 0 S.length c S ⟨x.id, t, a⟩ W hr hlen (fun y hy => hh.2 y ((List.mem_filter.1 (hp.mem_iff.1 hy)).1)) hd
    rw [great_same x.id t a G S hp hs ⟨x.id, t, a⟩ rfl rfl] at hk
    exact hk
  clear h h' h1 h2 hb0 HE
  unfold aD aGv at *
  dsimp only at k3
  generalize mayG x G t a = R at *
  generalize great x.id t a G = g at *
  generalize drugB x = t1 at *
  generalize hT2 : gsB G = t2 at *
  generalize hT3 : gvB ⟨x.id, t, a⟩ = t3 at *
  clear hT2 hT3
  rcases t1 with _ | _
  · go_enter Try.func18, Try.ntmps18
    go_upto_region 2 with fail
    generalize hWB : (w.alloc (.cells #[.int .i64 x.id, .slice ta n tc, .int .i64 x.pk, .int .i64 x.most, .int .i64 x.day, .int .i64 x.kid] 26)).alloc (.cells #[.int .i64 x.id, .int .i64 t, .int .i64 a] 49) = wB at *
    obtain ⟨p0, p1, p2, p3, p4, p5⟩ := HPX.out.six
    obtain ⟨q0, q1, q2⟩ := HPD.out.three
    go_wp2_with (first | (go_at_call 27; refine (k1 _ (HH.out _ (by repeat (first | exact Below.refl _ _ | assumption | refine st_drew ?_ | refine st_drewN ?_ _ | refine Below.setCell ?_ (by first | omega | (simp; done) | (simp; omega)) _ | refine Below.alloc ?_ (by first | omega | (simp; done) | (simp; omega)) _)))).mono ?_; rintro e w1 ⟨rfl, hb1⟩; have bA := onto (show Below wB.heap.size wB _ from by repeat (first | exact Below.refl _ _ | assumption | refine st_drew ?_ | refine st_drewN ?_ _ | refine Below.setCell ?_ (by first | omega | (simp; done) | (simp; omega)) _ | refine Below.alloc ?_ (by first | omega | (simp; done) | (simp; omega)) _)) hb1; obtain ⟨c0, c1, c2⟩ := (HPD.out.below bA).three; clear hb1) | (go_at_call 45; refine (k2 _ (HL.out _ (by repeat (first | exact Below.refl _ _ | assumption | refine st_drew ?_ | refine st_drewN ?_ _ | refine Below.setCell ?_ (by first | omega | (simp; done) | (simp; omega)) _ | refine Below.alloc ?_ (by first | omega | (simp; done) | (simp; omega)) _)))).mono ?_; rintro e w2 ⟨rfl, hb2⟩; have bB := onto (show Below wB.heap.size wB _ from by repeat (first | exact Below.refl _ _ | assumption | refine st_drew ?_ | refine st_drewN ?_ _ | refine Below.setCell ?_ (by first | omega | (simp; done) | (simp; omega)) _ | refine Below.alloc ?_ (by first | omega | (simp; done) | (simp; omega)) _)) hb2; obtain ⟨d0, d1, d2⟩ := (HPD.out.below bB).three; clear hb2) | (go_at_call 46; refine (k3 _).mono ?_; rintro e w3 ⟨rfl, hb3⟩; have bC := onto (show Below wB.heap.size wB _ from by repeat (first | exact Below.refl _ _ | assumption | refine st_drew ?_ | refine st_drewN ?_ _ | refine Below.setCell ?_ (by first | omega | (simp; done) | (simp; omega)) _ | refine Below.alloc ?_ (by first | omega | (simp; done) | (simp; omega)) _)) hb3; clear hb3) | fail)
    all_goals go_ret2
    all_goals exact ⟨by rw [HR0.out (by simp)]; rfl, HBW.out _ (by repeat (first | exact Below.refl _ _ | assumption | refine st_drew ?_ | refine st_drewN ?_ _ | refine Below.setCell ?_ (by first | omega | (simp; done) | (simp; omega)) _ | refine Below.alloc ?_ (by first | omega | (simp; done) | (simp; omega)) _))⟩
  rcases t2 with _ | _
  · go_enter Try.func18, Try.ntmps18
    go_upto_region 2 with fail
    generalize hWB : (w.alloc (.cells #[.int .i64 x.id, .slice ta n tc, .int .i64 x.pk, .int .i64 x.most, .int .i64 x.day, .int .i64 x.kid] 26)).alloc (.cells #[.int .i64 x.id, .int .i64 t, .int .i64 a] 49) = wB at *
    obtain ⟨p0, p1, p2, p3, p4, p5⟩ := HPX.out.six
    obtain ⟨q0, q1, q2⟩ := HPD.out.three
    go_wp2_with (first | (go_at_call 27; refine (k1 _ (HH.out _ (by repeat (first | exact Below.refl _ _ | assumption | refine st_drew ?_ | refine st_drewN ?_ _ | refine Below.setCell ?_ (by first | omega | (simp; done) | (simp; omega)) _ | refine Below.alloc ?_ (by first | omega | (simp; done) | (simp; omega)) _)))).mono ?_; rintro e w1 ⟨rfl, hb1⟩; have bA := onto (show Below wB.heap.size wB _ from by repeat (first | exact Below.refl _ _ | assumption | refine st_drew ?_ | refine st_drewN ?_ _ | refine Below.setCell ?_ (by first | omega | (simp; done) | (simp; omega)) _ | refine Below.alloc ?_ (by first | omega | (simp; done) | (simp; omega)) _)) hb1; obtain ⟨c0, c1, c2⟩ := (HPD.out.below bA).three; clear hb1) | (go_at_call 45; refine (k2 _ (HL.out _ (by repeat (first | exact Below.refl _ _ | assumption | refine st_drew ?_ | refine st_drewN ?_ _ | refine Below.setCell ?_ (by first | omega | (simp; done) | (simp; omega)) _ | refine Below.alloc ?_ (by first | omega | (simp; done) | (simp; omega)) _)))).mono ?_; rintro e w2 ⟨rfl, hb2⟩; have bB := onto (show Below wB.heap.size wB _ from by repeat (first | exact Below.refl _ _ | assumption | refine st_drew ?_ | refine st_drewN ?_ _ | refine Below.setCell ?_ (by first | omega | (simp; done) | (simp; omega)) _ | refine Below.alloc ?_ (by first | omega | (simp; done) | (simp; omega)) _)) hb2; obtain ⟨d0, d1, d2⟩ := (HPD.out.below bB).three; clear hb2) | (go_at_call 46; refine (k3 _).mono ?_; rintro e w3 ⟨rfl, hb3⟩; have bC := onto (show Below wB.heap.size wB _ from by repeat (first | exact Below.refl _ _ | assumption | refine st_drew ?_ | refine st_drewN ?_ _ | refine Below.setCell ?_ (by first | omega | (simp; done) | (simp; omega)) _ | refine Below.alloc ?_ (by first | omega | (simp; done) | (simp; omega)) _)) hb3; clear hb3) | fail)
    all_goals go_ret2
    all_goals exact ⟨by rw [HR0.out (by simp)]; rfl, HBW.out _ (by repeat (first | exact Below.refl _ _ | assumption | refine st_drew ?_ | refine st_drewN ?_ _ | refine Below.setCell ?_ (by first | omega | (simp; done) | (simp; omega)) _ | refine Below.alloc ?_ (by first | omega | (simp; done) | (simp; omega)) _))⟩
  rcases t3 with _ | _
  · go_enter Try.func18, Try.ntmps18
    go_upto_region 2 with fail
    generalize hWB : (w.alloc (.cells #[.int .i64 x.id, .slice ta n tc, .int .i64 x.pk, .int .i64 x.most, .int .i64 x.day, .int .i64 x.kid] 26)).alloc (.cells #[.int .i64 x.id, .int .i64 t, .int .i64 a] 49) = wB at *
    obtain ⟨p0, p1, p2, p3, p4, p5⟩ := HPX.out.six
    obtain ⟨q0, q1, q2⟩ := HPD.out.three
    go_wp2_with (first | (go_at_call 27; refine (k1 _ (HH.out _ (by repeat (first | exact Below.refl _ _ | assumption | refine st_drew ?_ | refine st_drewN ?_ _ | refine Below.setCell ?_ (by first | omega | (simp; done) | (simp; omega)) _ | refine Below.alloc ?_ (by first | omega | (simp; done) | (simp; omega)) _)))).mono ?_; rintro e w1 ⟨rfl, hb1⟩; have bA := onto (show Below wB.heap.size wB _ from by repeat (first | exact Below.refl _ _ | assumption | refine st_drew ?_ | refine st_drewN ?_ _ | refine Below.setCell ?_ (by first | omega | (simp; done) | (simp; omega)) _ | refine Below.alloc ?_ (by first | omega | (simp; done) | (simp; omega)) _)) hb1; obtain ⟨c0, c1, c2⟩ := (HPD.out.below bA).three; clear hb1) | (go_at_call 45; refine (k2 _ (HL.out _ (by repeat (first | exact Below.refl _ _ | assumption | refine st_drew ?_ | refine st_drewN ?_ _ | refine Below.setCell ?_ (by first | omega | (simp; done) | (simp; omega)) _ | refine Below.alloc ?_ (by first | omega | (simp; done) | (simp; omega)) _)))).mono ?_; rintro e w2 ⟨rfl, hb2⟩; have bB := onto (show Below wB.heap.size wB _ from by repeat (first | exact Below.refl _ _ | assumption | refine st_drew ?_ | refine st_drewN ?_ _ | refine Below.setCell ?_ (by first | omega | (simp; done) | (simp; omega)) _ | refine Below.alloc ?_ (by first | omega | (simp; done) | (simp; omega)) _)) hb2; obtain ⟨d0, d1, d2⟩ := (HPD.out.below bB).three; clear hb2) | (go_at_call 46; refine (k3 _).mono ?_; rintro e w3 ⟨rfl, hb3⟩; have bC := onto (show Below wB.heap.size wB _ from by repeat (first | exact Below.refl _ _ | assumption | refine st_drew ?_ | refine st_drewN ?_ _ | refine Below.setCell ?_ (by first | omega | (simp; done) | (simp; omega)) _ | refine Below.alloc ?_ (by first | omega | (simp; done) | (simp; omega)) _)) hb3; clear hb3) | fail)
    all_goals go_ret2
    all_goals exact ⟨by rw [HR0.out (by simp)]; rfl, HBW.out _ (by repeat (first | exact Below.refl _ _ | assumption | refine st_drew ?_ | refine st_drewN ?_ _ | refine Below.setCell ?_ (by first | omega | (simp; done) | (simp; omega)) _ | refine Below.alloc ?_ (by first | omega | (simp; done) | (simp; omega)) _))⟩
  obtain ⟨hg5, hgr⟩ := HG.out rfl
  have HGR := hidden (hgr rfl)
  have HR := hidden (HR1.out rfl)
  clear hgr HG HR0 HR1
  go_enter Try.func18, Try.ntmps18
  go_upto_region 2 with fail
  generalize hWB : (w.alloc (.cells #[.int .i64 x.id, .slice ta n tc, .int .i64 x.pk, .int .i64 x.most, .int .i64 x.day, .int .i64 x.kid] 26)).alloc (.cells #[.int .i64 x.id, .int .i64 t, .int .i64 a] 49) = wB at *
  obtain ⟨p0, p1, p2, p3, p4, p5⟩ := HPX.out.six
  obtain ⟨q0, q1, q2⟩ := HPD.out.three
  go_upto_region 4 with (first | (go_at_call 27; refine (k1 _ (HH.out _ (by repeat (first | exact Below.refl _ _ | assumption | refine st_drew ?_ | refine st_drewN ?_ _ | refine Below.setCell ?_ (by first | omega | (simp; done) | (simp; omega)) _ | refine Below.alloc ?_ (by first | omega | (simp; done) | (simp; omega)) _)))).mono ?_; rintro e w1 ⟨rfl, hb1⟩; have bA := onto (show Below wB.heap.size wB _ from by repeat (first | exact Below.refl _ _ | assumption | refine st_drew ?_ | refine st_drewN ?_ _ | refine Below.setCell ?_ (by first | omega | (simp; done) | (simp; omega)) _ | refine Below.alloc ?_ (by first | omega | (simp; done) | (simp; omega)) _)) hb1; obtain ⟨c0, c1, c2⟩ := (HPD.out.below bA).three; clear hb1) | (go_at_call 45; refine (k2 _ (HL.out _ (by repeat (first | exact Below.refl _ _ | assumption | refine st_drew ?_ | refine st_drewN ?_ _ | refine Below.setCell ?_ (by first | omega | (simp; done) | (simp; omega)) _ | refine Below.alloc ?_ (by first | omega | (simp; done) | (simp; omega)) _)))).mono ?_; rintro e w2 ⟨rfl, hb2⟩; have bB := onto (show Below wB.heap.size wB _ from by repeat (first | exact Below.refl _ _ | assumption | refine st_drew ?_ | refine st_drewN ?_ _ | refine Below.setCell ?_ (by first | omega | (simp; done) | (simp; omega)) _ | refine Below.alloc ?_ (by first | omega | (simp; done) | (simp; omega)) _)) hb2; obtain ⟨d0, d1, d2⟩ := (HPD.out.below bB).three; clear hb2) | (go_at_call 46; refine (k3 _).mono ?_; rintro e w3 ⟨rfl, hb3⟩; have bC := onto (show Below wB.heap.size wB _ from by repeat (first | exact Below.refl _ _ | assumption | refine st_drew ?_ | refine st_drewN ?_ _ | refine Below.setCell ?_ (by first | omega | (simp; done) | (simp; omega)) _ | refine Below.alloc ?_ (by first | omega | (simp; done) | (simp; omega)) _)) hb3; clear hb3) | fail)
  obtain ⟨w9, hb9, hw9⟩ : ∃ w9, Below wB.heap.size wB w9 ∧ w9 = w3 := ⟨w3, bC, rfl⟩
  subst hw9
  clear bA bB bC c0 d0 q0 c1 d1 q1 c2 d2 q2 p0 p1 p2 p3 p4 p5
  obtain ⟨p0, p1, p2, p3, p4, p5⟩ := (HPX.out.below hb9).six
  obtain ⟨q0, q1, q2⟩ := (HPD.out.below hb9).three
  have HP9 := hidden (fun W (hW : Below w9.heap.size w9 W) => HPX.out.below (hb9.trans (hW.mono hb9.size)))
  have HQ9 := hidden (fun W (hW : Below w9.heap.size w9 W) => HPD.out.below (hb9.trans (hW.mono hb9.size)))
  have HD9 := hidden (fun W (hW : Below w9.heap.size w9 W) => HDo.out W (hb9.trans (hW.mono hb9.size)) hg5)
  have HB9 := hidden (fun W (hW : Below w9.heap.size w9 W) => HBW.out W (hb9.trans (hW.mono hb9.size)))
  clear HPX HPD HDo HBW HH HL hb9 k1 k2 k3
  first | go_region_with (first | (go_at_call 48; refine (HD9.out _ (by repeat (first | exact Below.refl _ _ | assumption | refine st_drew ?_ | refine st_drewN ?_ _ | refine Below.setCell ?_ (by first | omega | (simp; done) | (simp; omega)) _ | refine Below.alloc ?_ (by first | omega | (simp; done) | (simp; omega)) _))).mono ?_; rintro e w5 ⟨b5, c5, S5, rfl, hp5, hs5, hr5, hb5⟩; have b6 := onto (show Below w9.heap.size w9 _ from by repeat (first | exact Below.refl _ _ | assumption | refine st_drew ?_ | refine st_drewN ?_ _ | refine Below.setCell ?_ (by first | omega | (simp; done) | (simp; omega)) _ | refine Below.alloc ?_ (by first | omega | (simp; done) | (simp; omega)) _)) hb5; have HK5 := hidden (HGR.out b5 c5 S5); have HP5 := hidden hp5; have HS5 := hidden hs5; have HR5 := hidden hr5; have b6s := b6; obtain ⟨r0, r1, r2⟩ := (HQ9.out _ b6s).three; clear hb5 hp5 hs5 hr5) | (go_at_call 47; refine (HK5.out _ HP5.out HS5.out (Rw.below HR5.out (by repeat (first | exact Below.refl _ _ | assumption | refine st_drew ?_ | refine st_drewN ?_ _ | refine Below.setCell ?_ (by first | omega | (simp; done) | (simp; omega)) _ | refine Below.alloc ?_ (by first | omega | (simp; done) | (simp; omega)) _)))).mono ?_; rintro e w7 ⟨rfl, hb7⟩; have b7 := onto (show Below w9.heap.size w9 _ from by repeat (first | exact Below.refl _ _ | assumption | refine st_drew ?_ | refine st_drewN ?_ _ | refine Below.setCell ?_ (by first | omega | (simp; done) | (simp; omega)) _ | refine Below.alloc ?_ (by first | omega | (simp; done) | (simp; omega)) _)) hb7; have b7s := b7; obtain ⟨m0, m1, m2, m3, m4, m5⟩ := (HP9.out _ b7s).six; clear hb7) | fail) | fail
  all_goals (by_cases hle : g ≤ x.day)
  all_goals (have hnl : (x.day < g) = ¬ (g ≤ x.day) := by rw [eq_iff_iff]; omega)
  all_goals (go_wp2_with fail)
  all_goals go_ret2
  all_goals first
    | exact ⟨by rw [HR.out, if_pos (by omega)]; rfl, HB9.out _ (by repeat (first | exact Below.refl _ _ | assumption | refine st_drew ?_ | refine st_drewN ?_ _ | refine Below.setCell ?_ (by first | omega | (simp; done) | (simp; omega)) _ | refine Below.alloc ?_ (by first | omega | (simp; done) | (simp; omega)) _))⟩
    | exact ⟨by rw [HR.out, if_neg (by omega)]; rfl, HB9.out _ (by repeat (first | exact Below.refl _ _ | assumption | refine st_drew ?_ | refine st_drewN ?_ _ | refine Below.setCell ?_ (by first | omega | (simp; done) | (simp; omega)) _ | refine Below.alloc ?_ (by first | omega | (simp; done) | (simp; omega)) _))⟩
end Go.Proofs.Ytcnhogghfedcdaa
