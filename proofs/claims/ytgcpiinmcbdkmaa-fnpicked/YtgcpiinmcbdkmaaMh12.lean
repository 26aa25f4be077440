/-
  Merged: Pk9.
-/
import Derived.Test.YtgcpiinmcbdkmaaMh11
namespace Go.Proofs.Ytgcpiinmcbdkmaa
open Go.RowKit Va Bl Pq
set_option linter.all false
set_option maxRecDepth 20000 in
set_option maxHeartbeats 16000000 in
theorem uheap_any (nd : Nd) (sv : Value) (D : UE → Prop) (G c m a b : Nat) (d : List UE) (w : World) (h : SU c w G d) (hm : d.length = m) (hmm : m ≤ 100000) (hab : a < b) (hb : b ≤ m) (hF : Fine (ltU nd) D d) (hK : LessU nd sv D) (hSl : SlU D) :
    Calls Try.prog 122 #[.slice (some ⟨G, 0, none⟩) m c, .int .i64 a, .int .i64 b, (.func (.func 47) #[.agg #[.int .i64 nd.p, .int .i64 nd.g, sv]] #[])] w fun e w' => e = .returned (.tuple #[]) ∧ ∃ d', SU c w' G d' ∧ PO a b d d' ∧ SO (ltU nd) a b d' ∧ Below G w w' := by
  obtain ⟨n, hn⟩ : ∃ n, b - a = n := ⟨_, rfl⟩
  have hwn : IntKind.i64.wrap ((b : Int) - (a : Int)) = (n : Int) := by rw [IntKind.wrap_i64]; omega
  have HC := hidden (fun (l n' : Nat) (e : List UE) (W : World) (h' : SU c W G e) (hpo : PO a b d e) (hn' : a + n' ≤ b) (hs : Sink (ltU nd) a l n' l e) (hl : l ≤ n') => usift_any nd sv D G c m a l n' e W h' (hpo.len.trans hm) hmm (by omega) (hF.po hpo) hK hSl hs hl)
  have HH := hidden h
  have HF := hidden hF
  have HM := hidden hm
  have HSl := hidden hSl
  obtain ⟨n1, hn1⟩ : ∃ n1, n = n1 + 1 := ⟨n - 1, by omega⟩
  have hw1 : IntKind.i64.wrap ((n : Int) - 1) = (n1 : Int) := by rw [IntKind.wrap_i64]; omega
  obtain ⟨q, hq⟩ : ∃ q, n1 / 2 = q := ⟨_, rfl⟩
  have hq1 : (n1 : Int).tdiv 2 = (q : Int) := by rw [Int.tdiv_eq_ediv_of_nonneg (by omega)]; omega
  have hq2 : (n1 : Int) / 2 = (q : Int) := by omega
  have hq3 : IntKind.i64.wrap (q : Int) = (q : Int) := by rw [IntKind.wrap_i64]; omega
  have HQ : Hid (n1 / 2 = q ∧ n = n1 + 1 ∧ b - a = n) := ⟨hq, hn1, hn⟩
  have hqn : q < n ∧ n ≤ 100000 := by omega
  have hH0 : Hid (Heap (ltU nd) a (q + 1) n d) := fun i c' h1 h2 h3 => by omega
  have hban : b = a + n := by omega
  have HBAN := hidden hban
  have hanb : a + n ≤ b := by omega
  clear h hm hF hK hSl hn hn1 hq hban
  go_enter Try.func122, Try.ntmps122
  go_wp2_with fail
  go_loopw [11] (fun iv ws => ∃ (i : Nat) (e : List UE), iv = .int .i64 ((i : Int) - 1) ∧ i ≤ n ∧ Hid (SU c ws G e) ∧ Hid (PO a b d e) ∧ Hid (Heap (ltU nd) a i n e) ∧ Below G w ws) (fun iv _ => (intOf iv + 1).toNat)
  case atStart => exact ⟨q + 1, d, by simp, by omega, HH, PO.refl _ _ _, hH0, Below.refl _ _⟩
  case round =>
    clear hH0
    obtain ⟨i, e, rfl, hin, hs, hpo, hhp, hbw⟩ := hrel
    rename World => ws
    by_cases hz : 0 < i
    · obtain ⟨i', rfl⟩ : ∃ i', i = i' + 1 := ⟨i - 1, by omega⟩
      have e9 : (((i' + 1 : Nat) : Int) - 1) = (i' : Int) := by omega
      rw [e9]
      have hz2 : (0 : Int) ≤ (i' : Int) := by omega
      have hc := HC.out i' n e ws hs.out hpo.out hanb (sink_start hhp.out) (by omega)
      clear e9
      go_wp2_with (go_at_call 144; (with_reducible refine hc.mono ?_); rintro e9 w2 ⟨rfl, d2, hs2, hpo2, hpo3, hh2, hb2⟩; have HS2 := hidden hs2; have HP2 : Hid (PO a b d d2) := hpo.out.trans (hpo2.mono (Nat.le_refl _) (by omega)); have HH2 := hidden hh2; have bA := hbw.trans hb2; clear hs2 hpo2 hpo3 hh2 hb2)
      go_roundw
      case rel => exact ⟨i', d2, rfl, by omega, HS2, HP2, HH2, bA⟩
      case measure => simp [intOf] <;> omega
    · obtain rfl : i = 0 := by omega
      have hz2 : ¬ (0 : Int) ≤ ((0 : Nat) : Int) - 1 := by omega
      have hp0 : Hid (Pop (ltU nd) a n n e) := ⟨hhp.out, fun p q' h1 h2 h3 => by omega, fun p q' h1 h2 h3 => by omega⟩
      have hnn : ((n : Int) - 1) = (n : Int) - 1 := rfl
      clear hhp hz hnn
      go_wp2_with fail
      go_loopw [12] (fun iv ws => ∃ (k : Nat) (e : List UE), iv = .int .i64 ((k : Int) - 1) ∧ k ≤ n ∧ Hid (SU c ws G e) ∧ Hid (PO a b d e) ∧ Hid (Pop (ltU nd) a k n e) ∧ Below G w ws) (fun iv _ => (intOf iv + 1).toNat)
      case atStart => exact ⟨n, e, by congr 1; have := HQ.out; omega, Nat.le_refl _, hs, hpo, hp0, hbw⟩
      case round =>
        clear hp0 hs hpo hbw
        obtain ⟨k, e, rfl, hkn, hs, hpo, hpp, hbw⟩ := hrel
        rename World => ws
        by_cases hz3 : 0 < k
        · obtain ⟨k', rfl⟩ : ∃ k', k = k' + 1 := ⟨k - 1, by omega⟩
          have e9 : (((k' + 1 : Nat) : Int) - 1) = (k' : Int) := by omega
          rw [e9]
          have hz4 : (0 : Int) ≤ (k' : Int) := by omega
          have hFe := HF.out.po hpo.out
          have hel : e.length = m := by rw [hpo.out.len]; exact HM.out
          obtain ⟨y1, y2, y3⟩ := pop_step hFe (m := n) (by have := HBAN.out; omega) (by omega) hpp.out
          have Y1 := hidden y1
          have Y2 := hidden y2
          have Y3 := hidden y3
          have HPO : Hid (PO a b d (Pq.sw e a (a + k'))) := hpo.out.trans (PO.sw (by omega) (by omega) (by omega) (by omega) (by omega))
          obtain ⟨i2, hi2⟩ : ∃ i2, a + k' = i2 := ⟨_, rfl⟩
          have hwk : IntKind.i64.wrap ((a : Int) + (k' : Int)) = (i2 : Int) := by rw [IntKind.wrap_i64]; omega
          have hin1 : (a : Int) < (m : Int) := by omega
          have hin2 : (i2 : Int) < (m : Int) := by omega
          have hai : a ≤ i2 := by omega
          have HI2 := hidden hi2
          have hlen : Hid ((Pq.sw e a i2).length = m) := by show _ = _; rw [Pq.sw_len]; exact hel
          rw [hi2] at HPO
          simp only [hi2] at Y1 Y2 Y3
          clear y1 y2 y3 e9 hpp
          by_cases h00 : k' = 0
          · have hia : i2 = a := by omega
            have hin : a < m := by omega
            subst hia
            clear h00
            have hGl := hs.out.lt
            have hxs := HSl.out (at' e (i2)) (hFe.all _ (at_mem (by omega)))
            have hys := HSl.out (at' e (i2)) (hFe.all _ (at_mem (by omega)))
            have HSW := hidden (hs.out.sw (i := i2) (j := i2) (by omega) (by omega))
            have HB := hidden (put6_below (put6_below hbw (Nat.le_refl _) (at' e (i2)) (o := (i2) * 6)) (Nat.le_refl _) (at' e (i2)) (o := (i2) * 6))
            obtain ⟨p0, p1, p2, p3, p4, p5, p6, p7, p8, p9, p10, p11⟩ := hs.out.at (i := i2) (by omega)
            obtain ⟨q0, q1, q2, q3, q4, q5, q6, q7, q8, q9, q10, q11⟩ := hs.out.at (i := i2) (by omega)
            clear hs hFe hel hpo hbw
            generalize at' e i2 = x at *
            obtain ⟨xu, xv⟩ := x
            obtain ⟨xa, xn, xc, hx2⟩ := hxs
            dsimp only at hx2
            subst hx2
            clear hys q0 q1 q2 q3 q4 q5 q6 q7 q8 q9 q10 q11
            dsimp only at p0 p1 p2 p3 p4 p5
            generalize Pq.sw e i2 i2 = e2 at *
            clear e
            have HCC := hidden (fun (W : World) (h' : SU c W G e2) => HC.out 0 k' e2 W h' HPO.out (by omega) Y1.out (by omega))
            rw [show ((0 : Nat) : Int) = 0 from rfl] at HCC
            go_wp2_with fail
            go_region
            all_goals go_wp2_with (go_at_call 144; go_loud ((with_reducible refine (HCC.out _ ?_).mono ?_); (exact HSW.out.below (st_drew (Below.refl _ _))); rintro e9 w2 ⟨rfl, d2, hs2, hpo2, hpo3, hh2, hb2⟩; have HS2 := hidden hs2; have HP2 : Hid (PO i2 b d d2) := HPO.out.trans (hpo2.mono (Nat.le_refl _) (by omega)); have HV2 := hidden (pop_keep hpo2 (by have := hlen.out; have := HBAN.out; omega) (by omega) (by rw [HI2.out]; exact Y2.out) Y3.out hh2); have bA := (st_drew HB.out).trans hb2; clear hs2 hpo2 hpo3 hh2 hb2))
            all_goals go_roundw
            case rel => exact ⟨k', d2, rfl, by omega, HS2, HP2, HV2, bA⟩
            case measure => simp [intOf] <;> omega
          · have hai2 : a < i2 := by omega
            clear hai
            have hGl := hs.out.lt
            have hxs := HSl.out (at' e (a)) (hFe.all _ (at_mem (by omega)))
            have hys := HSl.out (at' e (i2)) (hFe.all _ (at_mem (by omega)))
            have HSW := hidden (hs.out.sw (i := a) (j := i2) (by omega) (by omega))
            have HB := hidden (put6_below (put6_below hbw (Nat.le_refl _) (at' e (i2)) (o := (a) * 6)) (Nat.le_refl _) (at' e (a)) (o := (i2) * 6))
            obtain ⟨p0, p1, p2, p3, p4, p5, p6, p7, p8, p9, p10, p11⟩ := hs.out.at (i := a) (by omega)
            obtain ⟨q0, q1, q2, q3, q4, q5, q6, q7, q8, q9, q10, q11⟩ := hs.out.at (i := i2) (by omega)
            clear hs hFe hel hpo hbw
            generalize at' e (a) = x at *
            generalize at' e (i2) = y at *
            obtain ⟨xu, xv⟩ := x
            obtain ⟨yu, yv⟩ := y
            obtain ⟨xa, xn, xc, hx2⟩ := hxs
            obtain ⟨ya, yn, yc, hy2⟩ := hys
            dsimp only at hx2 hy2
            subst hx2 hy2
            dsimp only at p0 p1 p2 p3 p4 p5 q0 q1 q2 q3 q4 q5
            generalize Pq.sw e a i2 = e2 at *
            clear e
            have HCC := hidden (fun (W : World) (h' : SU c W G e2) => HC.out 0 k' e2 W h' HPO.out (by omega) Y1.out (by omega))
            rw [show ((0 : Nat) : Int) = 0 from rfl] at HCC
            go_wp2_with fail
            go_region
            all_goals go_wp2_with (go_at_call 144; go_loud ((with_reducible refine (HCC.out _ ?_).mono ?_); (exact HSW.out.below (st_drew (Below.refl _ _))); rintro e9 w2 ⟨rfl, d2, hs2, hpo2, hpo3, hh2, hb2⟩; have HS2 := hidden hs2; have HP2 : Hid (PO a b d d2) := HPO.out.trans (hpo2.mono (Nat.le_refl _) (by omega)); have HV2 := hidden (pop_keep hpo2 (by have := hlen.out; have := HBAN.out; omega) (by omega) (by rw [HI2.out]; exact Y2.out) Y3.out hh2); have bA := (st_drew HB.out).trans hb2; clear hs2 hpo2 hpo3 hh2 hb2))
            all_goals go_roundw
            case rel => exact ⟨k', d2, rfl, by omega, HS2, HP2, HV2, bA⟩
            case measure => simp [intOf] <;> omega
        · obtain rfl : k = 0 := by omega
          have hz4 : ¬ (0 : Int) ≤ ((0 : Nat) : Int) - 1 := by omega
          have HV : Hid (SO (ltU nd) a b e) := by have h := pop_all hpp.out; rw [← HBAN.out] at h; exact h
          clear hpp
          go_wp2_with fail
          go_end0
          exact ⟨rfl, e, hs.out, hpo.out, HV.out, hbw⟩
end Go.Proofs.Ytgcpiinmcbdkmaa
