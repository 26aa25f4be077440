/-
  Merged: Pk11.
-/
import Derived.Test.YtgcpiinmcbdkmaaMh16
namespace Go.Proofs.Ytgcpiinmcbdkmaa
open Go.RowKit Go.Sort Va Bl Pq
set_option linter.all false
theorem keep_drew {g : Nat} {a b : World} (h : Keep g a b) : Keep g a b.drew := ⟨h.os, h.tape, h.output, h.size, h.block⟩
theorem put6_keep {G : Nat} {w0 w : World} (h : Keep G w0 w) (o : Nat) (p : UE) : Keep G w0 (put6 w G o p) :=
  (((((h.set (j := o) _).set (j := o + 1) _).set (j := o + 2) _).set (j := o + 3) _).set (j := o + 4) _).set (j := o + 5) _
theorem up2_any (n : Nat) (w : World) (hn : n < 4611686018427387904) : Calls Try.prog 145 #[.int .i64 n] w fun e w' => e = .returned (.int .u64 ((1 <<< bitsLen n : Nat) : Int)) ∧ w' = w :=
  calls_of_every_depth fun D => AnySM.nextPowerOfTwoIn { Try.srtL with } D n hn w
theorem unext_any (T X : Nat) (hX : X < 18446744073709551616) (w : World) (hc : w.cell? ⟨T, 0, none⟩ = some (.int .u64 X)) (hf : w.frozen? ⟨T, 0, none⟩ = false) : Calls Try.prog 146 #[.pointer (some ⟨T, 0, none⟩)] w fun e w' => ∃ X' : Nat, e = .returned (.int .u64 X') ∧ X' < 18446744073709551616 ∧ w'.cell? ⟨T, 0, none⟩ = some (.int .u64 X') ∧ w'.frozen? ⟨T, 0, none⟩ = false ∧ Keep T w w' := by
  have h : Calls Try.prog 146 #[.pointer (some ⟨T, 0, none⟩)] w fun e w' => e = .returned (.int .u64 (xorNextN X : Nat)) ∧ w' = (w.setCell ⟨T, 0, none⟩ (.int .u64 (xorNextN X : Nat))).drewN 3 :=
    calls_of_every_depth fun D => AnySM.xorshift_NextIn { Try.srtL with } D T 0 X hX w hc hf
  refine h.mono ?_
  rintro e w' ⟨rfl, rfl⟩
  exact ⟨_, rfl, xorNextN_lt X hX, World.cell?_setCell_same _ _ _ hc, (World.frozen?_setCell ..).trans hf, ((Keep.refl T w).set _).drewN 3⟩
set_option maxRecDepth 20000 in
set_option maxHeartbeats 32000000 in
theorem ubreak_any (nd : Nd) (sv : Value) (D : UE → Prop) (G c m a b : Nat) (d : List UE) (w : World) (h : SU c w G d) (hm : d.length = m) (hmm : m ≤ 100000) (hab : a + 8 ≤ b) (hb : b ≤ m) (hF : Fine (ltU nd) D d) (hSl : SlU D) :
    Calls Try.prog 123 #[.slice (some ⟨G, 0, none⟩) m c, .int .i64 a, .int .i64 b, (.func (.func 47) #[.agg #[.int .i64 nd.p, .int .i64 nd.g, sv]] #[])] w fun e w' => e = .returned (.tuple #[]) ∧ ∃ d', SU c w' G d' ∧ PO a b d d' ∧ Below G w w' := by
  obtain ⟨L, hL⟩ : ∃ L, b - a = L := ⟨_, rfl⟩
  have hwl : IntKind.i64.wrap ((b : Int) - (a : Int)) = (L : Int) := by rw [IntKind.wrap_i64]; omega
  obtain ⟨q, hq⟩ : ∃ q, L / 4 = q := ⟨_, rfl⟩
  have hq1 : (L : Int).tdiv 4 = (q : Int) := by rw [Int.tdiv_eq_ediv_of_nonneg (by omega)]; omega
  have hq2 : (L : Int) / 4 = (q : Int) := by omega
  have hq3 : 4 * q ≤ L ∧ L < 4 * q + 4 := by omega
  have hw0 : IntKind.i64.wrap (q : Int) = (q : Int) := by rw [IntKind.wrap_i64]; omega
  have hlm : 8 ≤ L ∧ L ≤ 100000 := by omega
  have h8 : (8 : Int) ≤ (L : Int) := by omega
  obtain ⟨i2, hi2⟩ : ∃ i, a + q * 2 = i := ⟨_, rfl⟩
  have hv2 : IntKind.i64.wrap ((a : Int) + (q : Int) * 2) = (i2 : Int) := by rw [IntKind.wrap_i64]; omega
  obtain ⟨i0, hi0⟩ : ∃ i, i + 1 = i2 := ⟨i2 - 1, by omega⟩
  have hv0 : IntKind.i64.wrap ((i2 : Int) - 1) = (i0 : Int) := by rw [IntKind.wrap_i64]; omega
  obtain ⟨i3, hi3⟩ : ∃ i, i2 + 1 = i := ⟨_, rfl⟩
  have hv3 : IntKind.i64.wrap ((i2 : Int) + 1) = (i3 : Int) := by rw [IntKind.wrap_i64]; omega
  have ib : a ≤ i0 ∧ i3 < b ∧ i0 ≤ i3 := by omega
  have HL : Hid (b - a = L) := hL
  obtain ⟨M, hM⟩ : ∃ M : Nat, M = 1 <<< bitsLen L := ⟨_, rfl⟩
  have hM1 : 1 ≤ M := by rw [hM, Nat.one_shiftLeft]; exact Nat.two_pow_pos _
  have hM2 : M ≤ 2 * L := by rw [hM, Nat.one_shiftLeft]; exact two_pow_bitsLen_le (by omega)
  have hNP : ∀ W, Calls Try.prog 145 #[.int .i64 L] W fun e w' => e = .returned (.int .u64 (M : Int)) ∧ w' = W := by rw [hM]; exact fun W => up2_any L W (by omega)
  have HF := hidden hF
  have HM := hidden hm
  have HSl := hidden hSl
  have hGl := h.lt
  have HP := PB.new w #[.int .u64 L] 186
  have t0 : (w.alloc (.cells #[.int .u64 L] 186)).cell? ⟨w.heap.size, 0, none⟩ = some (.int .u64 L) := HP.cell 0
  have t1 := HP.frozen 0
  have hT0 := HP.lt
  have hal : Below G w (w.alloc (.cells #[.int .u64 L] 186)) := (Below.refl _ _).alloc (Nat.le_of_lt hGl) _
  have HS0 := hidden (h.below ((Below.refl _ _).alloc (Nat.le_refl _) (.cells #[.int .u64 L] 186)))
  obtain ⟨T, hTT⟩ : ∃ T, w.heap.size = T := ⟨_, rfl⟩
  have hTG : T ≠ G := by omega
  have hGT : G ≤ T := by omega
  have HT : Hid (w.heap.size = T) := hTT
  have hLX : L < 18446744073709551616 := by omega
  have H0 : Hid ((w.alloc (.cells #[.int .u64 L] 186)).cell? ⟨T, 0, none⟩ = some (.int .u64 L) ∧ (w.alloc (.cells #[.int .u64 L] 186)).frozen? ⟨T, 0, none⟩ = false ∧ T < (w.alloc (.cells #[.int .u64 L] 186)).heap.size) := by rw [← hTT]; exact ⟨t0, t1, hT0⟩
  clear h hF hSl hm hL hq hi2 hi0 hi3 hM HP t0 t1 hT0 hGl
  go_enter Try.func123, Try.ntmps123
  go_wp2_with (go_at_call 145; (with_reducible refine (hNP _).mono ?_); rintro e w' ⟨rfl, rfl⟩)
  (try rw [hTT])
  go_loopw [11, 12] (fun iv _ ws => ∃ (k X : Nat) (e : List UE), iv = .int .i64 k ∧ (i0 ≤ k ∧ k ≤ i3 + 1) ∧ Hid (SU c ws G e) ∧ Hid (PO a b d e) ∧ ws.cell? ⟨T, 0, none⟩ = some (.int .u64 X) ∧ ws.frozen? ⟨T, 0, none⟩ = false ∧ X < 18446744073709551616 ∧ Below G w ws ∧ T < ws.heap.size) (fun iv _ _ => i3 + 1 - (intOf iv).toNat)
  case atStart => exact ⟨i0, L, d, rfl, by omega, HS0, PO.refl _ _ _, H0.out.1, H0.out.2.1, hLX, hal, H0.out.2.2⟩
  case round =>
    clear HS0 H0 hal hNP
    obtain ⟨k, X, e, rfl, ⟨hk1, hk2⟩, hs, hpo, hc1, hf1, hX1, hbw, hT⟩ := hrel
    rename World => ws
    have hFe := HF.out.po hpo.out
    have hel : e.length = m := by rw [hpo.out.len]; exact HM.out
    by_cases hki3 : k ≤ i3
    · have hkii : (k : Int) ≤ (i3 : Int) := by omega
      have hc := unext_any T X hX1 ws hc1 hf1
      go_wp2_with (go_at_call 146; (with_reducible refine hc.mono ?_); rintro e9 w2 ⟨X2, rfl, hX2, hc2, hf2, hk9⟩; obtain ⟨O, hO⟩ : ∃ O : Nat, O = X2 &&& (M - 1) := ⟨_, rfl⟩; have lO : O ≤ M - 1 := (by rw [hO]; exact Nat.and_le_right); have eAnd : bits .and .u64 (X2 : Int) ((M : Int) - 1) = (O : Int) := (by rw [show ((M : Int) - 1) = ((M - 1 : Nat) : Int) by omega, bits_and_u64_nat _ _ hX2 (by omega), hO]); have hT2 := Nat.lt_of_lt_of_le hT hk9.size; have hs2 := hidden (hs.out.keep hk9 hTG); have hbw2 := hbw.trans (hk9.below hGT (by omega)); clear hO hs hbw hk9 hc hc1 hf1)
      · skip
        have hLO : L ≤ O := by omega
        obtain ⟨o2, ho2⟩ : ∃ o2, o2 + L = O := ⟨O - L, by omega⟩
        have e5 : (O : Int) - (L : Int) = (o2 : Int) := by omega
        simp only [e5]
        obtain ⟨io, hio⟩ : ∃ io, a + o2 = io := ⟨_, rfl⟩
        have hwa : IntKind.i64.wrap ((a : Int) + (o2 : Int)) = (io : Int) := by rw [IntKind.wrap_i64]; omega
        have hib : (a ≤ io ∧ io < b) ∧ k < b := by have := HL.out; omega
        have hs := hs2
        have hbw := hbw2
        clear hio hLO eAnd hs2 hbw2 lO ho2 e5
        have hkm : (k : Int) < (m : Int) := by omega
        have hom : (io : Int) < (m : Int) := by omega
        have HPO : Hid (PO a b d (Pq.sw e k io)) := hpo.out.trans (PO.sw (by omega) (by omega) (by omega) (by omega) (by omega))
        clear hpo
        rcases Nat.lt_trichotomy k io with hki | hki | hki
        · skip
          have HKT : Hid (Keep G w2 (put6 (put6 w2 G (k * 6) (at' e io)) G (io * 6) (at' e k))) := put6_keep (put6_keep (Keep.refl _ _) _ _) _ _
          have HCT := hidden (((keep_drew HKT.out).cell (b := T) (o := 0) hT2 hTG).trans hc2)
          have HFT := hidden (((keep_drew HKT.out).frozen (b := T) (o := 0) hT2 hTG).trans hf2)
          have hGl := hs.out.lt
          have hxs := HSl.out (at' e (k)) (hFe.all _ (at_mem (by omega)))
          have hys := HSl.out (at' e (io)) (hFe.all _ (at_mem (by omega)))
          have HSW := hidden (hs.out.sw (i := k) (j := io) (by omega) (by omega))
          have HB := hidden (put6_below (put6_below hbw (Nat.le_refl _) (at' e (io)) (o := (k) * 6)) (Nat.le_refl _) (at' e (k)) (o := (io) * 6))
          obtain ⟨p0, p1, p2, p3, p4, p5, p6, p7, p8, p9, p10, p11⟩ := hs.out.at (i := k) (by omega)
          obtain ⟨q0, q1, q2, q3, q4, q5, q6, q7, q8, q9, q10, q11⟩ := hs.out.at (i := io) (by omega)
          clear hs hFe hel hbw
          generalize at' e (k) = x at *
          generalize at' e (io) = y at *
          obtain ⟨xu, xv⟩ := x
          obtain ⟨yu, yv⟩ := y
          obtain ⟨xa, xn, xc, hx2⟩ := hxs
          obtain ⟨ya, yn, yc, hy2⟩ := hys
          dsimp only at hx2 hy2
          subst hx2 hy2
          dsimp only at p0 p1 p2 p3 p4 p5 q0 q1 q2 q3 q4 q5
          go_wp2_with fail
          go_region
          all_goals go_wp2_with fail
          all_goals go_roundw
          case rel => exact ⟨k + 1, X2, Pq.sw e k io, by simp, by omega, HSW.out.below (st_drew (Below.refl _ _)), HPO, HCT.out, HFT.out, hX2, st_drew HB.out, Nat.lt_of_lt_of_le hT2 (keep_drew HKT.out).size⟩
          case measure => simp [intOf]; omega
        · subst hki
          have HKT : Hid (Keep G w2 (put6 (put6 w2 G (k * 6) (at' e k)) G (k * 6) (at' e k))) := put6_keep (put6_keep (Keep.refl _ _) _ _) _ _
          have HCT := hidden (((keep_drew HKT.out).cell (b := T) (o := 0) hT2 hTG).trans hc2)
          have HFT := hidden (((keep_drew HKT.out).frozen (b := T) (o := 0) hT2 hTG).trans hf2)
          have hGl := hs.out.lt
          have hxs := HSl.out (at' e (k)) (hFe.all _ (at_mem (by omega)))
          have hys := HSl.out (at' e (k)) (hFe.all _ (at_mem (by omega)))
          have HSW := hidden (hs.out.sw (i := k) (j := k) (by omega) (by omega))
          have HB := hidden (put6_below (put6_below hbw (Nat.le_refl _) (at' e (k)) (o := (k) * 6)) (Nat.le_refl _) (at' e (k)) (o := (k) * 6))
          obtain ⟨p0, p1, p2, p3, p4, p5, p6, p7, p8, p9, p10, p11⟩ := hs.out.at (i := k) (by omega)
          obtain ⟨q0, q1, q2, q3, q4, q5, q6, q7, q8, q9, q10, q11⟩ := hs.out.at (i := k) (by omega)
          clear hs hFe hel hbw
          generalize at' e k = x at *
          obtain ⟨xu, xv⟩ := x
          obtain ⟨xa, xn, xc, hx2⟩ := hxs
          dsimp only at hx2
          subst hx2
          clear hys q0 q1 q2 q3 q4 q5 q6 q7 q8 q9 q10 q11
          dsimp only at p0 p1 p2 p3 p4 p5
          go_wp2_with fail
          go_region
          all_goals go_wp2_with fail
          all_goals go_roundw
          case rel => exact ⟨k + 1, X2, Pq.sw e k k, by simp, by omega, HSW.out.below (st_drew (Below.refl _ _)), HPO, HCT.out, HFT.out, hX2, st_drew HB.out, Nat.lt_of_lt_of_le hT2 (keep_drew HKT.out).size⟩
          case measure => simp [intOf]; omega
        · skip
          have HKT : Hid (Keep G w2 (put6 (put6 w2 G (k * 6) (at' e io)) G (io * 6) (at' e k))) := put6_keep (put6_keep (Keep.refl _ _) _ _) _ _
          have HCT := hidden (((keep_drew HKT.out).cell (b := T) (o := 0) hT2 hTG).trans hc2)
          have HFT := hidden (((keep_drew HKT.out).frozen (b := T) (o := 0) hT2 hTG).trans hf2)
          have hGl := hs.out.lt
          have hxs := HSl.out (at' e (k)) (hFe.all _ (at_mem (by omega)))
          have hys := HSl.out (at' e (io)) (hFe.all _ (at_mem (by omega)))
          have HSW := hidden (hs.out.sw (i := k) (j := io) (by omega) (by omega))
          have HB := hidden (put6_below (put6_below hbw (Nat.le_refl _) (at' e (io)) (o := (k) * 6)) (Nat.le_refl _) (at' e (k)) (o := (io) * 6))
          obtain ⟨p0, p1, p2, p3, p4, p5, p6, p7, p8, p9, p10, p11⟩ := hs.out.at (i := k) (by omega)
          obtain ⟨q0, q1, q2, q3, q4, q5, q6, q7, q8, q9, q10, q11⟩ := hs.out.at (i := io) (by omega)
          clear hs hFe hel hbw
          generalize at' e (k) = x at *
          generalize at' e (io) = y at *
          obtain ⟨xu, xv⟩ := x
          obtain ⟨yu, yv⟩ := y
          obtain ⟨xa, xn, xc, hx2⟩ := hxs
          obtain ⟨ya, yn, yc, hy2⟩ := hys
          dsimp only at hx2 hy2
          subst hx2 hy2
          dsimp only at p0 p1 p2 p3 p4 p5 q0 q1 q2 q3 q4 q5
          go_wp2_with fail
          go_region
          all_goals go_wp2_with fail
          all_goals go_roundw
          case rel => exact ⟨k + 1, X2, Pq.sw e k io, by simp, by omega, HSW.out.below (st_drew (Below.refl _ _)), HPO, HCT.out, HFT.out, hX2, st_drew HB.out, Nat.lt_of_lt_of_le hT2 (keep_drew HKT.out).size⟩
          case measure => simp [intOf]; omega
      · skip
        have hLO : ¬ L ≤ O := by omega
        obtain ⟨io, hio⟩ : ∃ io, a + O = io := ⟨_, rfl⟩
        have hwa : IntKind.i64.wrap ((a : Int) + (O : Int)) = (io : Int) := by rw [IntKind.wrap_i64]; omega
        have hib : (a ≤ io ∧ io < b) ∧ k < b := by have := HL.out; omega
        have hs := hs2
        have hbw := hbw2
        clear hio hLO eAnd hs2 hbw2 lO
        have hkm : (k : Int) < (m : Int) := by omega
        have hom : (io : Int) < (m : Int) := by omega
        have HPO : Hid (PO a b d (Pq.sw e k io)) := hpo.out.trans (PO.sw (by omega) (by omega) (by omega) (by omega) (by omega))
        clear hpo
        rcases Nat.lt_trichotomy k io with hki | hki | hki
        · skip
          have HKT : Hid (Keep G w2 (put6 (put6 w2 G (k * 6) (at' e io)) G (io * 6) (at' e k))) := put6_keep (put6_keep (Keep.refl _ _) _ _) _ _
          have HCT := hidden (((keep_drew HKT.out).cell (b := T) (o := 0) hT2 hTG).trans hc2)
          have HFT := hidden (((keep_drew HKT.out).frozen (b := T) (o := 0) hT2 hTG).trans hf2)
          have hGl := hs.out.lt
          have hxs := HSl.out (at' e (k)) (hFe.all _ (at_mem (by omega)))
          have hys := HSl.out (at' e (io)) (hFe.all _ (at_mem (by omega)))
          have HSW := hidden (hs.out.sw (i := k) (j := io) (by omega) (by omega))
          have HB := hidden (put6_below (put6_below hbw (Nat.le_refl _) (at' e (io)) (o := (k) * 6)) (Nat.le_refl _) (at' e (k)) (o := (io) * 6))
          obtain ⟨p0, p1, p2, p3, p4, p5, p6, p7, p8, p9, p10, p11⟩ := hs.out.at (i := k) (by omega)
          obtain ⟨q0, q1, q2, q3, q4, q5, q6, q7, q8, q9, q10, q11⟩ := hs.out.at (i := io) (by omega)
          clear hs hFe hel hbw
          generalize at' e (k) = x at *
          generalize at' e (io) = y at *
          obtain ⟨xu, xv⟩ := x
          obtain ⟨yu, yv⟩ := y
          obtain ⟨xa, xn, xc, hx2⟩ := hxs
          obtain ⟨ya, yn, yc, hy2⟩ := hys
          dsimp only at hx2 hy2
          subst hx2 hy2
          dsimp only at p0 p1 p2 p3 p4 p5 q0 q1 q2 q3 q4 q5
          go_wp2_with fail
          go_region
          all_goals go_wp2_with fail
          all_goals go_roundw
          case rel => exact ⟨k + 1, X2, Pq.sw e k io, by simp, by omega, HSW.out.below (st_drew (Below.refl _ _)), HPO, HCT.out, HFT.out, hX2, st_drew HB.out, Nat.lt_of_lt_of_le hT2 (keep_drew HKT.out).size⟩
          case measure => simp [intOf]; omega
        · subst hki
          have HKT : Hid (Keep G w2 (put6 (put6 w2 G (k * 6) (at' e k)) G (k * 6) (at' e k))) := put6_keep (put6_keep (Keep.refl _ _) _ _) _ _
          have HCT := hidden (((keep_drew HKT.out).cell (b := T) (o := 0) hT2 hTG).trans hc2)
          have HFT := hidden (((keep_drew HKT.out).frozen (b := T) (o := 0) hT2 hTG).trans hf2)
          have hGl := hs.out.lt
          have hxs := HSl.out (at' e (k)) (hFe.all _ (at_mem (by omega)))
          have hys := HSl.out (at' e (k)) (hFe.all _ (at_mem (by omega)))
          have HSW := hidden (hs.out.sw (i := k) (j := k) (by omega) (by omega))
          have HB := hidden (put6_below (put6_below hbw (Nat.le_refl _) (at' e (k)) (o := (k) * 6)) (Nat.le_refl _) (at' e (k)) (o := (k) * 6))
          obtain ⟨p0, p1, p2, p3, p4, p5, p6, p7, p8, p9, p10, p11⟩ := hs.out.at (i := k) (by omega)
          obtain ⟨q0, q1, q2, q3, q4, q5, q6, q7, q8, q9, q10, q11⟩ := hs.out.at (i := k) (by omega)
          clear hs hFe hel hbw
          generalize at' e k = x at *
          obtain ⟨xu, xv⟩ := x
          obtain ⟨xa, xn, xc, hx2⟩ := hxs
          dsimp only at hx2
          subst hx2
          clear hys q0 q1 q2 q3 q4 q5 q6 q7 q8 q9 q10 q11
          dsimp only at p0 p1 p2 p3 p4 p5
          go_wp2_with fail
          go_region
          all_goals go_wp2_with fail
          all_goals go_roundw
          case rel => exact ⟨k + 1, X2, Pq.sw e k k, by simp, by omega, HSW.out.below (st_drew (Below.refl _ _)), HPO, HCT.out, HFT.out, hX2, st_drew HB.out, Nat.lt_of_lt_of_le hT2 (keep_drew HKT.out).size⟩
          case measure => simp [intOf]; omega
        · skip
          have HKT : Hid (Keep G w2 (put6 (put6 w2 G (k * 6) (at' e io)) G (io * 6) (at' e k))) := put6_keep (put6_keep (Keep.refl _ _) _ _) _ _
          have HCT := hidden (((keep_drew HKT.out).cell (b := T) (o := 0) hT2 hTG).trans hc2)
          have HFT := hidden (((keep_drew HKT.out).frozen (b := T) (o := 0) hT2 hTG).trans hf2)
          have hGl := hs.out.lt
          have hxs := HSl.out (at' e (k)) (hFe.all _ (at_mem (by omega)))
          have hys := HSl.out (at' e (io)) (hFe.all _ (at_mem (by omega)))
          have HSW := hidden (hs.out.sw (i := k) (j := io) (by omega) (by omega))
          have HB := hidden (put6_below (put6_below hbw (Nat.le_refl _) (at' e (io)) (o := (k) * 6)) (Nat.le_refl _) (at' e (k)) (o := (io) * 6))
          obtain ⟨p0, p1, p2, p3, p4, p5, p6, p7, p8, p9, p10, p11⟩ := hs.out.at (i := k) (by omega)
          obtain ⟨q0, q1, q2, q3, q4, q5, q6, q7, q8, q9, q10, q11⟩ := hs.out.at (i := io) (by omega)
          clear hs hFe hel hbw
          generalize at' e (k) = x at *
          generalize at' e (io) = y at *
          obtain ⟨xu, xv⟩ := x
          obtain ⟨yu, yv⟩ := y
          obtain ⟨xa, xn, xc, hx2⟩ := hxs
          obtain ⟨ya, yn, yc, hy2⟩ := hys
          dsimp only at hx2 hy2
          subst hx2 hy2
          dsimp only at p0 p1 p2 p3 p4 p5 q0 q1 q2 q3 q4 q5
          go_wp2_with fail
          go_region
          all_goals go_wp2_with fail
          all_goals go_roundw
          case rel => exact ⟨k + 1, X2, Pq.sw e k io, by simp, by omega, HSW.out.below (st_drew (Below.refl _ _)), HPO, HCT.out, HFT.out, hX2, st_drew HB.out, Nat.lt_of_lt_of_le hT2 (keep_drew HKT.out).size⟩
          case measure => simp [intOf]; omega
    · have hkii : ¬ (k : Int) ≤ (i3 : Int) := by omega
      go_wp2_with fail
      go_end0
      exact ⟨rfl, e, hs.out, hpo.out, hbw⟩
end Go.Proofs.Ytgcpiinmcbdkmaa
