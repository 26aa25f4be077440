/-
  The roster, as the specification tells it: the walk.
-/
import Derived.Test.YtgcpiinmcbdkmaaRo10
namespace Go.Proofs.Ytgcpiinmcbdkmaa
open Go.RowKit Go.WideShapes Va Lb Sy Ro Go.Maps
set_option linter.all false

theorem okB_rng (p d nd r : Int) : okB p d nd r = (rng p 1 30 && rng d 0 60 && rng nd 0 p && rng r 1 10) := by
  unfold okB rng
  rw [Bool.eq_iff_iff]
  simp only [Bool.and_eq_true, decide_eq_true_eq]
theorem RS.put {w0 w : World} {n G1 G2 Go L c p : Nat} {ws ws' : List Wk} {O : List Int} {a b : Int} (h : RS w0 w n G1 G2 Go L c ws O) (hl : ws'.length = n) (h1 : ws'.map (·.1) = (ws.map (·.1)).set p a) (h2 : ws'.map (·.2) = (ws.map (·.2)).set p b) : RS w0 ((w.setCell ⟨G1, p, none⟩ (.int .i64 a)).setCell ⟨G2, p, none⟩ (.int .i64 b)) n G1 G2 Go L c ws' O := by
  obtain ⟨m1, m2, m3⟩ := h.n1
  refine ⟨hl, h.ol, ?_, ?_, ?_, h.n1, h.lo, (h.bel.setCell (p := ⟨G1, p, none⟩) h.lo.1 _).setCell (p := ⟨G2, p, none⟩) h.lo.2 _⟩
  · rw [h1]; exact (h.r1.set p a).far (fun q => m1 q.symm) _
  · rw [h2]; exact (h.r2.far m1 _).set p b
  · exact own_otherR (own_otherR h.out (fun k hk => by rw [blk_of hk]; exact m2) _) (fun k hk => by rw [blk_of hk]; exact m3) _
theorem RS.put2 {w0 w : World} {n G1 G2 Go L c p : Nat} {ws ws' : List Wk} {O : List Int} {b : Int} (h : RS w0 w n G1 G2 Go L c ws O) (hl : ws'.length = n) (h1 : ws'.map (·.1) = ws.map (·.1)) (h2 : ws'.map (·.2) = (ws.map (·.2)).set p b) : RS w0 (w.setCell ⟨G2, p, none⟩ (.int .i64 b)) n G1 G2 Go L c ws' O := by
  obtain ⟨m1, m2, m3⟩ := h.n1
  refine ⟨hl, h.ol, ?_, ?_, ?_, h.n1, h.lo, h.bel.setCell (p := ⟨G2, p, none⟩) h.lo.2 _⟩
  · rw [h1]; exact h.r1.far (fun q => m1 q.symm) _
  · rw [h2]; exact h.r2.set p b
  · exact own_otherR h.out (fun k hk => by rw [blk_of hk]; exact m3) _

set_option maxRecDepth 20000 in
set_option maxHeartbeats 16000000 in
theorem sroster_any (p d nd r : Int) (w : World) : Calls Try.prog 18 #[.int .i64 p, .int .i64 d, .int .i64 nd, .int .i64 r] w fun e w' => ∃ v', e = .returned v' ∧ VOwn 1 cvI w' w.heap.size v' (roster p d nd r) ∧ Below w.heap.size w w' := by
  obtain ⟨i0, hi0, hv0, hv1, hv2⟩ := info_partsW infoW64
  obtain ⟨i1, hi1, hu0, hu1, hu2⟩ := info_partsW infoBool
  have k1 := fun W => lin_any p 1 30 W
  have k2 := fun W => lin_any d 0 60 W
  have k3 := fun W => lin_any nd 0 p W
  have k4 := fun W => lin_any r 1 10 W
  have HV : Hid (roster p d nd r = if okB p d nd r then (ros p.toNat nd.toNat r d.toNat).2 else []) := rfl
  generalize roster p d nd r = M at *
  cases hok : okB p d nd r with
  | false =>
    have HE : Hid (M = []) := by show _ = _; rw [HV.out, hok]; rfl
    clear HV
    cases hr1 : rng p 1 30 with
    | true =>
      rw [hr1] at k1
      cases hr2 : rng d 0 60 with
      | true =>
        rw [hr2] at k2
        cases hr3 : rng nd 0 p with
        | true =>
          rw [hr3] at k3
          cases hr4 : rng r 1 10 with
          | true =>
            rw [hr4] at k4
            exfalso
            have e : okB p d nd r = true := by
              rw [okB_rng, hr1, hr2, hr3, hr4]; rfl
            rw [e] at hok; cases hok
          | false =>
            rw [hr4] at k4
            clear hok hr1 hr2 hr3 hr4
            go_enter Try.func18, Try.ntmps18
            go_wp2_with (go_at_call 52; (with_reducible first | refine (k1 _).mono ?_ | refine (k2 _).mono ?_ | refine (k3 _).mono ?_ | refine (k4 _).mono ?_); rintro e w4 ⟨rfl, rfl⟩)
            go_ret
            rw [HE.out]
            exact ⟨_, rfl, VOwn.nil _ _ _ _, by repeat (first | exact Below.refl _ _ | assumption | refine st_drew ?_ | refine st_drewN ?_ _ | refine Below.setCell ?_ (by first | omega | (simp; done) | (simp; omega)) _ | refine Below.alloc ?_ (by first | omega | (simp; done) | (simp; omega)) _)⟩
        | false =>
          rw [hr3] at k3
          clear hok hr1 hr2 hr3
          go_enter Try.func18, Try.ntmps18
          go_wp2_with (go_at_call 52; (with_reducible first | refine (k1 _).mono ?_ | refine (k2 _).mono ?_ | refine (k3 _).mono ?_ | refine (k4 _).mono ?_); rintro e w4 ⟨rfl, rfl⟩)
          go_ret
          rw [HE.out]
          exact ⟨_, rfl, VOwn.nil _ _ _ _, by repeat (first | exact Below.refl _ _ | assumption | refine st_drew ?_ | refine st_drewN ?_ _ | refine Below.setCell ?_ (by first | omega | (simp; done) | (simp; omega)) _ | refine Below.alloc ?_ (by first | omega | (simp; done) | (simp; omega)) _)⟩
      | false =>
        rw [hr2] at k2
        clear hok hr1 hr2
        go_enter Try.func18, Try.ntmps18
        go_wp2_with (go_at_call 52; (with_reducible first | refine (k1 _).mono ?_ | refine (k2 _).mono ?_ | refine (k3 _).mono ?_ | refine (k4 _).mono ?_); rintro e w4 ⟨rfl, rfl⟩)
        go_ret
        rw [HE.out]
        exact ⟨_, rfl, VOwn.nil _ _ _ _, by repeat (first | exact Below.refl _ _ | assumption | refine st_drew ?_ | refine st_drewN ?_ _ | refine Below.setCell ?_ (by first | omega | (simp; done) | (simp; omega)) _ | refine Below.alloc ?_ (by first | omega | (simp; done) | (simp; omega)) _)⟩
    | false =>
      rw [hr1] at k1
      clear hok hr1
      go_enter Try.func18, Try.ntmps18
      go_wp2_with (go_at_call 52; (with_reducible first | refine (k1 _).mono ?_ | refine (k2 _).mono ?_ | refine (k3 _).mono ?_ | refine (k4 _).mono ?_); rintro e w4 ⟨rfl, rfl⟩)
      go_ret
      rw [HE.out]
      exact ⟨_, rfl, VOwn.nil _ _ _ _, by repeat (first | exact Below.refl _ _ | assumption | refine st_drew ?_ | refine st_drewN ?_ _ | refine Below.setCell ?_ (by first | omega | (simp; done) | (simp; omega)) _ | refine Below.alloc ?_ (by first | omega | (simp; done) | (simp; omega)) _)⟩
  | true =>
    have hok' : (1 ≤ p ∧ p ≤ 30) ∧ (0 ≤ d ∧ d ≤ 60) ∧ (0 ≤ nd ∧ nd ≤ p) ∧ 1 ≤ r ∧ r ≤ 10 := by
      have h := hok
      simp only [okB, Bool.and_eq_true, decide_eq_true_eq] at h
      obtain ⟨⟨⟨a1, a2⟩, a3⟩, a4⟩ := h
      exact ⟨a1, a2, a3, a4⟩
    have HM0 : Hid (M = (ros p.toNat nd.toNat r d.toNat).2) := by show _ = _; rw [HV.out, hok]; rfl
    have hok2 := hok
    rw [okB_rng] at hok2
    simp only [Bool.and_eq_true] at hok2
    obtain ⟨⟨⟨h1, h2⟩, h3⟩, h4⟩ := hok2
    rw [h1] at k1
    rw [h2] at k2
    rw [h3] at k3
    rw [h4] at k4
    clear h1 h2 h3 h4
    obtain ⟨⟨p1, p2⟩, ⟨d1, d2⟩, ⟨n1, n2⟩, r1, r2⟩ := hok'
    obtain ⟨n, rfl⟩ := Int.eq_ofNat_of_zero_le (show 0 ≤ p by omega)
    obtain ⟨dd, rfl⟩ := Int.eq_ofNat_of_zero_le d1
    obtain ⟨nk, rfl⟩ := Int.eq_ofNat_of_zero_le n1
    have HM : Hid (M = (ros n nk r dd).2) := HM0.out
    have HRb : Hid (∀ d, d ≤ 60 → ∀ x ∈ (ros n nk r d).1, (0 ≤ x.1 ∧ x.1 ≤ 1000) ∧ (0 ≤ x.2 ∧ x.2 ≤ 1000)) := fun d hd x hx => by
      obtain ⟨q1, q2, q3, q4⟩ := ros_bnd n nk r d x hx
      omega
    have HOl : Hid (∀ d, d ≤ 60 → (ros n nk r d).2.length ≤ 1800) := fun d hd => by
      rw [ros_out_len]
      exact Nat.le_trans (Nat.mul_le_mul hd (show nk ≤ 30 by omega)) (by omega)
    have hn30 : n ≤ 30 := by omega
    have hnk : nk ≤ 30 := by omega
    have hdd : dd ≤ 60 := by omega
    clear HV hok HM0 p1 p2 d1 d2 n1 n2
    have HO0 := hidden (ownW_new w 2 1)
    have HB0 : Hid (Below w.heap.size w (w.alloc (.cells #[] 2))) := (Below.refl _ _).alloc (Nat.le_refl _) _
    have HZ0 : Hid ((w.alloc (.cells #[] 2)).heap.size = w.heap.size + 1) := by show _ = _; simp
    go_enter Try.func18, Try.ntmps18
    go_wp2_with (first
      | (go_at_call 52; (with_reducible first | refine (k1 _).mono ?_ | refine (k2 _).mono ?_ | refine (k3 _).mono ?_ | refine (k4 _).mono ?_); rintro e w4 ⟨rfl, rfl⟩)
      | (refine wpList_make_full _ rfl (.tmp 40) (.tmp 40) 25 rfl 0 2 i0 (.int .i64 0) 1 Try.underlying25 hi0 hv0 hv1 .i64 .i64 _ _ n rfl rfl rfl rfl (by rw [hv2]; omega) (by unfold maxLen; omega) (Nat.zero_le _) ?_; intro w1 how1 hgw1; rw [made_intsR] at how1)
      | (refine wpList_make_full _ rfl (.tmp 42) (.tmp 42) 25 rfl 0 2 i0 (.int .i64 0) 1 Try.underlying25 hi0 hv0 hv1 .i64 .i64 _ _ n rfl rfl rfl rfl (by rw [hv2]; omega) (by unfold maxLen; omega) (Nat.zero_le _) ?_; intro w2 how2 hgw2; rw [made_intsR] at how2))
    have hz1 := hgw1.size
    have hz2 := hgw2.size
    have hZ := HZ0.out
    have g1l := (own_blkR how1).2
    have HS0 : Hid (RS w w2 n (w.heap.size + 1) w1.heap.size w.heap.size 0 0 (ros n nk r 0).1 (ros n nk r 0).2) := by
      have s1 : SR n w1 (w.heap.size + 1) (List.replicate n (0 : Int)) := by
        rw [← hZ]; exact SR.of_own (by simp) how1
      have s2 : SR n w2 w1.heap.size (List.replicate n (0 : Int)) := SR.of_own (by simp) how2
      refine ⟨by simp [ros], rfl, ?_, ?_, ?_, ⟨by omega, by omega, by omega⟩, ⟨by omega, by omega⟩, ?_⟩
      · rw [show (ros n nk r 0).1.map (·.1) = List.replicate n (0 : Int) from by simp [ros]]
        exact s1.grown hgw2 (fun k hk => by cases hk)
      · rw [show (ros n nk r 0).1.map (·.2) = List.replicate n (0 : Int) from by simp [ros]]
        exact s2
      · exact own_grownR (own_grownR HO0.out hgw1 (fun k _ e => by cases e)) hgw2 (fun k _ e => by cases e)
      · exact (HB0.out.grown hgw1 (by omega) (fun k hk => by cases hk)).grown hgw2 (by omega) (fun k hk => by cases hk)
    obtain ⟨G1, hG1⟩ : ∃ G1, w.heap.size + 1 = G1 := ⟨_, rfl⟩
    obtain ⟨G2, hG2⟩ : ∃ G2, w1.heap.size = G2 := ⟨_, rfl⟩
    rw [hG1, hG2] at HS0 ⊢
    clear how1 how2 hgw1 hgw2 HO0 HB0 HZ0 hZ hz1 hz2 g1l
    go_loopw [9, 12, 13, 14, 15, 16, 17, 18] (fun ov iv _ _ _ _ _ _ wr => ∃ (i Go L c : Nat), i ≤ dd ∧ iv = .int .i64 i ∧ ov = .slice (some ⟨Go, 0, none⟩) L c ∧ Hid (RS w wr n G1 G2 Go L c (ros n nk r i).1 (ros n nk r i).2)) (fun _ iv _ _ _ _ _ _ _ => dd - (intOf iv).toNat)
    case atStart => exact ⟨0, w.heap.size, 0, 0, Nat.zero_le _, rfl, rfl, HS0⟩
    case round =>
      clear HS0
      obtain ⟨i, Go, L, c, hi, rfl, rfl, hrs⟩ := hrel
      by_cases hlt : i < dd
      · have hlti : (i : Int) < (dd : Int) := by omega
        have hll := HOl.out i (by omega)
        have hbW := hidden (HRb.out i (by omega))
        obtain ⟨W, hWe⟩ : ∃ W, (ros n nk r i).1 = W := ⟨_, rfl⟩
        obtain ⟨O, hOe⟩ : ∃ O, (ros n nk r i).2 = O := ⟨_, rfl⟩
        have hst1 : Hid ((ros n nk r (i + 1)).1 = next W (chosen W nk r)) := by show _ = _; rw [ros, hWe]
        have hst2 : Hid ((ros n nk r (i + 1)).2 = O ++ among (chosen W nk r) W.length ++ List.replicate (nk - (srtd W r).length) (-1)) := by show _ = _; rw [ros, hWe, hOe, List.append_assoc]; rfl
        rw [hWe] at hrs hbW
        rw [hOe] at hrs hll
        have hWl := hidden hrs.out.wl
        have hLl : L ≤ 1800 := by have := hrs.out.ol; omega
        clear hWe hOe hll
        have hCd : Hid (chosen W nk r = (srtd W r).take nk) := rfl
        obtain ⟨C, hC⟩ : ∃ C, chosen W nk r = C := ⟨_, rfl⟩
        rw [hC] at hst1 hst2 hCd
        clear hC
        go_wp2_with (refine wpList_make_full _ rfl (.tmp 49) (.tmp 49) 41 rfl 0 4 i1 (.bool false) 1 Try.underlying41 hi1 hu0 hu1 .i64 .i64 _ _ n rfl rfl rfl rfl (by rw [hu2]; omega) (by unfold maxLen; omega) (Nat.zero_le _) ?_; intro w3 ho3 hg3)
        have HBI := hidden (BI.made ho3)
        have HRS := hidden (hrs.out.grown hg3)
        obtain ⟨l1, l2, l3, l4⟩ := hrs.out.goLo
        obtain ⟨I, hI⟩ : ∃ I, wr.heap.size = I := ⟨_, rfl⟩
        rw [hI] at HBI l2 l3 l4 ⊢
        have hIw : w.heap.size ≤ I := by omega
        clear ho3 hg3 hrs hI
        go_loopw [14, 15, 16, 17] (fun lv kv _ _ ws => ∃ (k : Nat), k ≤ nk ∧ kv = .int .i64 k ∧ lv = .int .i64 (k - (srtd W r).length : Nat) ∧ Hid (BI ws I n ((srtd W r).take k)) ∧ Hid (RS w ws n G1 G2 Go L c W O)) (fun _ kv _ _ _ => nk - (intOf kv).toNat)
        case atStart => exact ⟨0, Nat.zero_le _, rfl, by simp, HBI, HRS⟩
        case round =>
          clear HBI HRS
          obtain ⟨k, hk, rfl, rfl, hbi, hrs⟩ := hrel
          rename World => ws
          by_cases hlt2 : k < nk
          · have hlti2 : (k : Int) < (nk : Int) := by omega
            obtain ⟨lk, hlk⟩ : ∃ lk, k - (srtd W r).length = lk := ⟨_, rfl⟩
            have hlk9 : lk ≤ 30 := by omega
            have HLK := hidden hlk
            rw [hlk]
            clear hlk
            go_wp2_with fail
            go_loopw [16, 17] (fun bv pv wt => ∃ (p : Nat) (b : Int), p ≤ n ∧ pv = .int .i64 p ∧ bv = .int .i64 b ∧ Hid (Best W r ((srtd W r).take k) p b) ∧ Below ws.heap.size ws wt) (fun _ pv _ => n - (intOf pv).toNat)
            case atStart => exact ⟨0, -1, Nat.zero_le _, rfl, rfl, best_zero _ _ _, Below.refl _ _⟩
            case round =>
              rename World => wt
              obtain ⟨p, b, hp, rfl, rfl, hbest, hbt⟩ := hrel
              have hbb : (0 ≤ b → b = (b.toNat : Int) ∧ b.toNat < n) ∧ -1 ≤ b ∧ b < (n : Int) := by
                rcases hbest.out with ⟨rfl, _⟩ | ⟨q, q1, rfl, _⟩
                · exact ⟨fun h => by omega, by omega, by omega⟩
                · exact ⟨fun _ => ⟨by omega, by omega⟩, by omega, by omega⟩
              obtain ⟨hb1, hb2, hb3⟩ := hbb
              by_cases hlt3 : p < n
              · have hlti3 : (p : Int) < (n : Int) := by omega
                obtain ⟨e1, -⟩ := hbi.out.2 p hlt3
                obtain ⟨e2, e3, -, -⟩ := hrs.out.cells hlt3
                have hIl := hbi.out.1
                obtain ⟨-, -, s1, s2⟩ := hrs.out.goLo
                have e4 : 0 ≤ b → ws.cell? ⟨G1, b.toNat, none⟩ = some (.int .i64 (key W b)) := fun h => (hrs.out.cells (hb1 h).2).1
                have e1' := (hbt.cell (p := ⟨I, p, none⟩) hIl).trans e1
                have e2' := (hbt.cell (p := ⟨G1, p, none⟩) s1).trans e2
                have e3' := (hbt.cell (p := ⟨G2, p, none⟩) s2).trans e3
                have e4' : 0 ≤ b → wt.cell? ⟨G1, b.toNat, none⟩ = some (.int .i64 (key W b)) := fun h => (hbt.cell (p := ⟨G1, b.toNat, none⟩) s1).trans (e4 h)
                have HT : Hid (((((!decide ((p : Int) ∈ (srtd W r).take k)) && (decide ((W.getD p (0, 0)).2 < r))) && ((decide (b < 0)) || (decide ((W.getD p (0, 0)).1 < key W b))))) = true → Best W r ((srtd W r).take k) (p + 1) (p : Int)) := fun h => by
                  simp only [Bool.and_eq_true, Bool.or_eq_true, Bool.not_eq_true', decide_eq_true_eq, decide_eq_false_iff_not] at h
                  exact best_take hbest.out ⟨h.1.1, h.1.2⟩ h.2
                have HF : Hid (((((!decide ((p : Int) ∈ (srtd W r).take k)) && (decide ((W.getD p (0, 0)).2 < r))) && ((decide (b < 0)) || (decide ((W.getD p (0, 0)).1 < key W b))))) = false → Best W r ((srtd W r).take k) (p + 1) b) := fun h => by
                  refine best_skip hbest.out (fun q => ?_)
                  have : ((((!decide ((p : Int) ∈ (srtd W r).take k)) && (decide ((W.getD p (0, 0)).2 < r))) && ((decide (b < 0)) || (decide ((W.getD p (0, 0)).1 < key W b))))) = true := by
                    simp only [Bool.and_eq_true, Bool.or_eq_true, Bool.not_eq_true', decide_eq_true_eq, decide_eq_false_iff_not]
                    exact ⟨⟨q.1.1, q.1.2⟩, q.2⟩
                  rw [this] at h; cases h
                clear e1 e2 e3 e4 hbest
                go_upto_region 18 with fail
                refine regSr18 (I := I) (G1 := G1) (G2 := G2) (n := n) (c1 := n) (c2 := n) (c3 := n) (p := p) (bn := b.toNat) (cb := decide ((p : Int) ∈ (srtd W r).take k)) (st := (W.getD p (0, 0)).2) (r := r) (b := b) (wk := (W.getD p (0, 0)).1) (wb := key W b) rfl rfl rfl rfl rfl rfl rfl hn30 hlt3 (Nat.lt_of_lt_of_le hIl hbt.size) (Nat.lt_of_lt_of_le s1 hbt.size) (Nat.lt_of_lt_of_le s2 hbt.size) hb1 e1' e3' e2' e4' ?_
                intro b' w6 hf hb6 hv
                rw [laySr18 hf, hv]
                clear hv hf e1' e2' e3' e4'
                generalize Rg.out (Rg.opsOf Try.f18 18) b' 0 = z0
                generalize Rg.out (Rg.opsOf Try.f18 18) b' 1 = z1
                generalize Rg.out (Rg.opsOf Try.f18 18) b' 2 = z2
                generalize Rg.out (Rg.opsOf Try.f18 18) b' 3 = z3
                generalize Rg.out (Rg.opsOf Try.f18 18) b' 4 = z4
                generalize Rg.out (Rg.opsOf Try.f18 18) b' 5 = z5
                generalize Rg.out (Rg.opsOf Try.f18 18) b' 6 = z6
                generalize Rg.out (Rg.opsOf Try.f18 18) b' 7 = z7
                generalize Rg.out (Rg.opsOf Try.f18 18) b' 8 = z8
                generalize Rg.out (Rg.opsOf Try.f18 18) b' 9 = z9
                generalize Rg.out (Rg.opsOf Try.f18 18) b' 10 = z10
                generalize Rg.out (Rg.opsOf Try.f18 18) b' 11 = z11
                generalize Rg.out (Rg.opsOf Try.f18 18) b' 12 = z12
                generalize Rg.out (Rg.opsOf Try.f18 18) b' 13 = z13
                generalize Rg.out (Rg.opsOf Try.f18 18) b' 14 = z14
                generalize Rg.out (Rg.opsOf Try.f18 18) b' 15 = z15
                generalize Rg.out (Rg.opsOf Try.f18 18) b' 16 = z16
                generalize Rg.out (Rg.opsOf Try.f18 18) b' 17 = z17
                generalize Rg.out (Rg.opsOf Try.f18 18) b' 18 = z18
                generalize Rg.out (Rg.opsOf Try.f18 18) b' 19 = z19
                generalize Rg.out (Rg.opsOf Try.f18 18) b' 20 = z20
                generalize Rg.out (Rg.opsOf Try.f18 18) b' 21 = z21
                generalize Rg.out (Rg.opsOf Try.f18 18) b' 22 = z22
                generalize Rg.out (Rg.opsOf Try.f18 18) b' 23 = z23
                generalize Rg.out (Rg.opsOf Try.f18 18) b' 24 = z24
                generalize Rg.out (Rg.opsOf Try.f18 18) b' 25 = z25
                generalize Rg.out (Rg.opsOf Try.f18 18) b' 26 = z26
                generalize ((((!decide ((p : Int) ∈ (srtd W r).take k)) && (decide ((W.getD p (0, 0)).2 < r))) && ((decide (b < 0)) || (decide ((W.getD p (0, 0)).1 < key W b))))) = T at *
                have hb7 := ontoR hbt hb6
                cases T with
                | true =>
                  have HN := hidden (HT.out rfl)
                  go_frame
                  go_wp2_with fail
                  go_roundw
                  case rel => exact ⟨p + 1, (p : Int), by omega, rfl, rfl, HN, hb7⟩
                  case measure => simp [intOf]; omega
                | false =>
                  have HN := hidden (HF.out rfl)
                  go_frame
                  go_wp2_with fail
                  go_roundw
                  case rel => exact ⟨p + 1, b, by omega, rfl, rfl, HN, hb7⟩
                  case measure => simp [intOf]; omega
              · have hlti3 : ¬ (p : Int) < (n : Int) := by omega
                obtain rfl : p = n := by omega
                have hbest2 : Best W r ((srtd W r).take k) W.length b := by rw [hWl.out]; exact hbest.out
                have hbi2 := hidden (hbi.out.below hbt)
                have hrs2 := hidden (hrs.out.below hbt)
                by_cases hbn : b < 0
                · have h1 := best_none hbest2 hbn
                  have HB2 : Hid (BI wt I p ((srtd W r).take (k + 1))) := by show BI _ _ _ _; rw [take_more h1]; exact hbi2.out
                  have HLN : Hid (((lk : Int) + 1) = ((k + 1 - (srtd W r).length : Nat) : Int)) := by show _ = _; have := HLK.out; omega
                  clear hbest2 h1 hbest
                  go_wp2_with fail
                  go_roundw
                  case rel => exact ⟨k + 1, by omega, rfl, by rw [← HLN.out], HB2, hrs2⟩
                  case measure => simp [intOf]; omega
                · obtain ⟨q, q1, rfl, q3, q4⟩ := best_some hbest2 hbn
                  have hqn : q < p := by omega
                  have HB2 : Hid (BI (wt.setCell ⟨I, q, none⟩ (.bool true)) I p ((srtd W r).take (k + 1))) := by show BI _ _ _ _; rw [q4]; exact hbi2.out.put hqn
                  have HR2 : Hid (RS w (wt.setCell ⟨I, q, none⟩ (.bool true)) p G1 G2 Go L c W O) := hrs2.out.far (by omega) (by omega) (by omega) hIw _
                  have HLN : Hid ((lk : Int) = ((k + 1 - (srtd W r).length : Nat) : Int)) := by show _ = _; have := HLK.out; omega
                  have f0 := (hbi2.out.2 q hqn).1
                  have f1 := (hbi2.out.2 q hqn).2
                  have hqi : (q : Int) < (p : Int) := by omega
                  clear hbest2 hbest q3 q4 q1 hb1 hb2 hb3 hbi2 hrs2
                  go_wp2_with fail
                  go_roundw
                  case rel => exact ⟨k + 1, by omega, rfl, by rw [← HLN.out], HB2, HR2⟩
                  case measure => simp [intOf]; omega
          · have hlti2 : ¬ (k : Int) < (nk : Int) := by omega
            obtain rfl : k = nk := by omega
            obtain ⟨T, hT⟩ : ∃ T, k - (srtd W r).length = T := ⟨_, rfl⟩
            rw [hT] at hst2 ⊢
            have hT30 : T ≤ 30 := by omega
            have HBC : Hid (BI ws I n C) := by have h := hbi.out; rw [← hCd.out] at h; exact h
            have HR4 : Hid (RS w ws n G1 G2 Go L c (nextTo W C 0) (O ++ among C 0)) := by
              have h := hrs.out
              show RS _ _ _ _ _ _ _ _ _ _
              rw [nextTo_zero, show among C 0 = [] from rfl, List.append_nil]; exact h
            clear hbi hrs hT hCd
            go_wp2_with fail
            go_loopw [9, 18] (fun ov pv ws => ∃ (p Go2 L2 c2 : Nat), p ≤ n ∧ pv = .int .i64 p ∧ ov = .slice (some ⟨Go2, 0, none⟩) L2 c2 ∧ Hid (L2 ≤ L + p) ∧ Hid (BI ws I n C) ∧ Hid (RS w ws n G1 G2 Go2 L2 c2 (nextTo W C p) (O ++ among C p)) ∧ Hid (Go2 ≠ I)) (fun _ pv _ => n - (intOf pv).toNat)
            case atStart => exact ⟨0, Go, L, c, Nat.zero_le _, rfl, rfl, Nat.le_refl _, HBC, HR4, by show _ ≠ _; omega⟩
            case round =>
              clear HBC HR4
              obtain ⟨p, Go2, L2, c2, hp, rfl, rfl, hL2, hbi, hrs, hGI⟩ := hrel
              rename World => ws
              have hL2' : L2 ≤ 1900 := by have := hL2.out; omega
              by_cases hlt3 : p < n
              · have hlti3 : (p : Int) < (n : Int) := by omega
                have hpW : p < W.length := by rw [hWl.out]; exact hlt3
                obtain ⟨e1, -⟩ := hbi.out.2 p hlt3
                obtain ⟨e2, e3, e4, e5⟩ := hrs.out.cells hlt3
                rw [nextTo_at hpW] at e2 e3
                obtain ⟨x12, x34⟩ := hbW.out (W.getD p (0, 0)) (by rw [List.getD_eq_getElem?_getD, List.getElem?_eq_getElem hpW]; exact List.getElem_mem hpW)
                have HF1 := hidden (fst_next (c := C) hpW)
                have HF2 := hidden (snd_next (c := C) hpW)
                have HF3 := hidden (fst_same (c := C) hpW)
                have HA := hidden (among_succ C p)
                obtain ⟨g1, g2, g3, g4⟩ := hrs.out.goLo
                obtain ⟨m1, m2, m3⟩ := hrs.out.n1
                have hsw := hrs.out.bel.size
                have hIl := hbi.out.1
                have HNl : Hid ((nextTo W C (p + 1)).length = n) := by show _ = _; rw [nextTo_len]; exact hWl.out
                obtain ⟨⟨x, y⟩, hxy⟩ : ∃ x, W.getD p (0, 0) = x := ⟨_, rfl⟩
                rw [hxy] at e2 e3 x12 x34 HF1 HF2
                cases hcb : decide ((p : Int) ∈ C) with
                | true =>
                  rw [hcb] at e1 HF1 HF2
                  have HQ : Hid (O ++ among C p ++ [(p : Int)] = O ++ among C (p + 1)) := by show _ = _; rw [HA.out, if_pos (of_decide_eq_true hcb), List.append_assoc]
                  obtain ⟨x1, x2⟩ := x12
                  obtain ⟨y1, y2⟩ := x34
                  have hwx : IntKind.i64.wrap (x + 1) = x + 1 := by rw [IntKind.wrap_i64]; omega
                  have hwy : IntKind.i64.wrap (y + 1) = y + 1 := by rw [IntKind.wrap_i64]; omega
                  clear hcb HA HF3
                  go_upto_region 28 with (at_builtin; refine wpList_append_own_at _ rfl (.tmp 106) (.tmp 108) 25 rfl w.heap.size 2 i0 (.int .i64 0) 1 8 Try.underlying25 hi0 hv0 hv1 hv2 rfl (by decide) (.slice (some ⟨Go2, 0, none⟩) L2 c2) L2 ((O ++ among C p).map fun z => Value.int .i64 z) rfl (hrs.out.out.alloc _) ⟨ws.heap.size, 0, none⟩ 1 1 [.int .i64 (p : Int)] rfl rfl (cell_oneW _ _ _) (by simp [Value.oneCell']) (by unfold maxLen; omega) (by omega) (by simp; omega) ?_; intro v5 w5 ho5 hg5 hn5 hl5; obtain ⟨Go3, c3, rfl, hor3, hrs3⟩ := hrs.out.app (z := (p : Int)) ((Below.refl _ _).alloc (Nat.le_refl _) _) ho5 hg5 hl5; have HRS3 := hidden hrs3; clear hrs3 ho5 hn5 hl5)
                  have hbA : BI w5 I n C := (hbi.out.below ((Below.refl _ _).alloc (Nat.le_refl _) (.cells #[.int .i64 (p : Int)] 2))).grown hg5 (fun k hk => by rw [blk_of hk]; exact hGI.out)
                  have hG3 : Go3 ≠ I := by
                    have := hGI.out
                    rcases hor3 with q | q
                    · omega
                    · rw [World.size_alloc] at q; omega
                  obtain ⟨f2, f3, f4, f5⟩ := HRS3.out.cells hlt3
                  rw [nextTo_at hpW, hxy] at f2 f3
                  have HP := hidden (HRS3.out.put (p := p) (a := x + 1) (b := y + 1) HNl.out HF1.out HF2.out)
                  rw [HQ.out] at HP
                  have HBI2 := hidden ((hbA.far (B := G1) (j := p) (by omega) (.int .i64 (x + 1))).far (B := G2) (j := p) (by omega) (.int .i64 (y + 1)))
                  have HG3 := hidden hG3
                  have hm9 : ¬ G1 = G2 := m1
                  have f3' : (w5.setCell ⟨G1, p, none⟩ (.int .i64 (x + 1))).cell? ⟨G2, p, none⟩ = some (.int .i64 y) := by rw [World.cell?_setCell_other _ _ _ _ (by simp [m1])]; exact f3
                  have f5' : (w5.setCell ⟨G1, p, none⟩ (.int .i64 (x + 1))).frozen? ⟨G2, p, none⟩ = false := by rw [World.frozen?_setCell]; exact f5
                  clear hxy HF1 HF2 hrs hbi HQ m1 m2 m3 hg5 hor3 HRS3 hbA hG3 e1 e2 e3 e4 e5
                  go_wp2_with fail
                  go_roundw
                  case rel => exact ⟨p + 1, Go3, L2 + 1, c3, by omega, rfl, rfl, by show _ ≤ _; have := hL2.out; omega, HBI2, HP, HG3⟩
                  case measure => simp [intOf]; omega
                | false =>
                  rw [hcb] at e1 HF2
                  have HQ : Hid (O ++ among C p = O ++ among C (p + 1)) := by show _ = _; rw [HA.out, if_neg (of_decide_eq_false hcb), List.append_nil]
                  have HF4 := hidden (HF3.out hcb)
                  have HP := hidden (hrs.out.put2 (p := p) (b := 0) HNl.out HF4.out HF2.out)
                  rw [HQ.out] at HP
                  have HBI2 := hidden (hbi.out.far (B := G2) (j := p) (by omega) (.int .i64 0))
                  clear hcb hxy HA HF1 HF2 HF3 HF4 x12 x34 hrs hbi HQ m1 m2 m3
                  go_wp2_with fail
                  go_roundw
                  case rel => exact ⟨p + 1, Go2, L2, c2, by omega, rfl, rfl, by show _ ≤ _; have := hL2.out; omega, HBI2, HP, hGI⟩
                  case measure => simp [intOf]; omega
              · have hlti3 : ¬ (p : Int) < (n : Int) := by omega
                obtain rfl : p = n := by omega
                have HR5 : Hid (RS w ws p G1 G2 Go2 L2 c2 (next W C) (O ++ among C p ++ List.replicate (T - T) (-1))) := by
                  have h := hrs.out
                  show RS _ _ _ _ _ _ _ _ _ _
                  rw [Nat.sub_self, List.replicate_zero, List.append_nil, ← nextTo_all, hWl.out]; exact h
                clear hrs hbi hGI
                go_wp2_with fail
                go_loopw [9, 14] (fun ov lv ws => ∃ (l Go2 L2 c2 : Nat), l ≤ T ∧ lv = .int .i64 l ∧ ov = .slice (some ⟨Go2, 0, none⟩) L2 c2 ∧ Hid (L2 ≤ 1900 + (T - l)) ∧ Hid (RS w ws p G1 G2 Go2 L2 c2 (next W C) (O ++ among C p ++ List.replicate (T - l) (-1)))) (fun _ lv _ => (intOf lv).toNat)
                case atStart => exact ⟨T, Go2, L2, c2, Nat.le_refl _, rfl, rfl, by show _ ≤ _; omega, HR5⟩
                case round =>
                  clear HR5 hL2 hL2'
                  obtain ⟨l, Go2, L2, c2, hl, rfl, rfl, hL2, hrs⟩ := hrel
                  rename World => ws
                  have hL2' : L2 ≤ 1930 := by have := hL2.out; omega
                  have hsw := hrs.out.bel.size
                  by_cases hlt4 : 0 < l
                  · have hlti4 : (0 : Int) < (l : Int) := by omega
                    have hwl : IntKind.i64.wrap ((l : Int) - 1) = ((l - 1 : Nat) : Int) := by rw [IntKind.wrap_i64]; omega
                    go_wp2_with (at_builtin; refine wpList_append_own_at _ rfl (.tmp 133) (.tmp 134) 25 rfl w.heap.size 2 i0 (.int .i64 0) 1 8 Try.underlying25 hi0 hv0 hv1 hv2 rfl (by decide) (.slice (some ⟨Go2, 0, none⟩) L2 c2) L2 ((O ++ among C p ++ List.replicate (T - l) (-1)).map fun z => Value.int .i64 z) rfl (hrs.out.out.alloc _) ⟨ws.heap.size, 0, none⟩ 1 1 [.int .i64 (-1)] rfl rfl (cell_oneW _ _ _) (by simp [Value.oneCell']) (by unfold maxLen; omega) (by omega) (by simp; omega) ?_; intro v5 w5 ho5 hg5 hn5 hl5; obtain ⟨Go3, c3, rfl, hor3, hrs3⟩ := hrs.out.app (z := (-1)) ((Below.refl _ _).alloc (Nat.le_refl _) _) ho5 hg5 hl5; have HRS3 := hidden hrs3; clear hrs3 ho5 hn5 hl5)
                    have HR6 : Hid (RS w w5 p G1 G2 Go3 (L2 + 1) c3 (next W C) (O ++ among C p ++ List.replicate (T - (l - 1)) (-1))) := by
                      have h := HRS3.out
                      show RS _ _ _ _ _ _ _ _ _ _
                      rw [show T - (l - 1) = T - l + 1 from by omega, List.replicate_succ', ← List.append_assoc]; exact h
                    clear HRS3 hrs hg5 hor3
                    go_roundw
                    case rel => exact ⟨l - 1, Go3, L2 + 1, c3, by omega, by congr 1, rfl, by show _ ≤ _; have := hL2.out; omega, HR6⟩
                    case measure => simp [intOf]; omega
                  · have hlti4 : ¬ (0 : Int) < (l : Int) := by omega
                    obtain rfl : l = 0 := by omega
                    have HR6 : Hid (RS w ws p G1 G2 Go2 L2 c2 (ros p k r (i + 1)).1 (ros p k r (i + 1)).2) := by
                      have h := hrs.out
                      show RS _ _ _ _ _ _ _ _ _ _
                      rw [hst1.out, hst2.out, hWl.out]; simpa using h
                    clear hrs
                    go_wp2_with fail
                    go_roundw
                    case rel => exact ⟨i + 1, Go2, L2, c2, by omega, rfl, rfl, HR6⟩
                    case measure => simp [intOf]; omega
      · have hlti : ¬ (i : Int) < (dd : Int) := by omega
        obtain rfl : i = dd := by omega
        have HE : Hid (VOwn 1 cvI wr w.heap.size (.slice (some ⟨Go, 0, none⟩) L c) M ∧ Below w.heap.size w wr) := by
          have h := hrs.out
          rw [← HM.out] at h
          have h1 := h.out
          rw [← h.ol] at h1
          refine ⟨?_, h.bel⟩
          rw [← h.ol]; exact vownI h1
        clear hrs
        go_wp2_with fail
        go_ret
        exact ⟨_, rfl, HE.out.1, HE.out.2⟩
end Go.Proofs.Ytgcpiinmcbdkmaa
