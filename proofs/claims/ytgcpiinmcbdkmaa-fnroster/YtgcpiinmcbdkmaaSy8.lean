/-
  Merging in place where the second run has one number.
-/
import Derived.Test.YtgcpiinmcbdkmaaSy6
namespace Go.Proofs.Ytgcpiinmcbdkmaa
open Go.RowKit Go.WideShapes Va Lb Go.Maps Sy
set_option linter.all false

set_option maxRecDepth 20000 in
set_option maxHeartbeats 8000000 in
theorem symhigh_any (k : Int → Int) (D : Int → Prop) (V : Value) (G c n p m b : Nat) (x : Int) (P A S : List Int) (w : World) (h : SR c w G (P ++ A ++ x :: S)) (hn : (P ++ A ++ x :: S).length = n) (hl : n ≤ 1000) (hp : P.length = p) (hm : m = p + A.length) (hA2 : 2 ≤ A.length) (hb : b = m + 1) (hDx : D x) (hD : ∀ y ∈ A, D y) (hr : ∀ y ∈ A, y < x) (hA : Srt k A) (hK : LessC G w k D V) :
    Calls Try.prog 168 #[.slice (some ⟨G, 0, none⟩) n c, .int .i64 p, .int .i64 m, .int .i64 b, .func (.func 134) #[] #[V]] w fun e w' => e = .returned (.tuple #[]) ∧ ∃ M, SR c w' G (P ++ M ++ S) ∧ M.Perm (A ++ [x]) ∧ Srt k M ∧ Below G w w' := by
  have hbn : b ≤ n := by rw [← hn]; simp; omega
  have HAL : Hid (A.length = m - p) := by show _ = _; omega
  have HP := hidden hp
  have HN := hidden hn
  have HH := hidden h
  have HD := hidden hD
  have HR := hidden hr
  have HA := hidden hA
  have HK := hidden hK
  have HM := hidden hm
  have HB9 := hidden hb
  have hpm : p + 2 ≤ m := by omega
  have hmb : m < b := by omega
  obtain ⟨dd, hdd⟩ : ∃ dd, m - p = dd := ⟨_, rfl⟩
  have hw0 : IntKind.i64.wrap ((m : Int) - (p : Int)) = (dd : Int) := by rw [IntKind.wrap_i64]; omega
  have hd1 : ((dd : Int) == 1) = false := by rw [beq_eq_false_iff_ne]; omega
  have hw1 : IntKind.i64.wrap ((b : Int) - (m : Int)) = 1 := by rw [IntKind.wrap_i64]; omega
  clear h hn hp hm hb hD hr hA hK hA2 hdd
  go_enter Try.func168, Try.ntmps168
  go_wp2_with fail
  go_loopw [14, 15, 16] (fun iv jv _ wr => ∃ (i j : Nat), iv = .int .i64 i ∧ jv = .int .i64 j ∧ p ≤ i ∧ i ≤ j ∧ j ≤ m ∧ Hid (Srch k A x (i - p) (j - p)) ∧ Hid (SR c wr G (P ++ A ++ x :: S)) ∧ Below G w wr) (fun iv jv _ _ => (intOf jv).toNat - (intOf iv).toNat)
  case atStart => exact ⟨p, m, rfl, rfl, Nat.le_refl _, by omega, Nat.le_refl _, by show Srch _ _ _ _ _; rw [Nat.sub_self, ← HAL.out]; exact srch_start _ _ _, HH, Below.refl _ _⟩
  case round =>
    obtain ⟨i, j, rfl, rfl, hi, hij, hj, hsr, hs, hb⟩ := hrel
    by_cases hlt : i < j
    · have hlti : (i : Int) < (j : Int) := by omega
      obtain ⟨h, hh⟩ : ∃ h, (i + j) / 2 = h := ⟨_, rfl⟩
      have hI : ((i : Int) + (j : Int)) / 2 = (h : Int) := by omega
      have h1 : i ≤ h := by omega
      have h2 : h < j := by omega
      clear hh
      have hmm := HM.out
      have hPp := HP.out
      have hln := HN.out
      have hAL := HAL.out
      obtain ⟨e1, f1⟩ := hs.out.at (i := h) (by omega)
      obtain ⟨e2, f2⟩ := hs.out.at (i := m) (by omega)
      have g2 : (P ++ A ++ x :: S).getD m 0 = x := by rw [show m = (P ++ A).length from by simp; omega, getD_mid]
      have g1 : (P ++ A ++ x :: S).getD h 0 = A.getD (h - p) 0 := by
        rw [getD_app (by simp; omega), getD_app2 (by omega), hPp]
      have hyM : A.getD (h - p) 0 ∈ A := by rw [List.getD_eq_getElem?_getD, List.getElem?_eq_getElem (by omega : h - p < A.length)]; exact List.getElem_mem _
      rw [g1] at e1
      rw [g2] at e2
      have hK2 := fun W hW => HK.out x (A.getD (h - p) 0) hDx (HD.out _ hyM) W hW
      have hkey : cmI (k x) (k (A.getD (h - p) 0)) < 0 ↔ lt k x (A.getD (h - p) 0) := cmI_lt.trans (lt_key (HR.out _ hyM)).symm
      have hup : ¬ cmI (k x) (k (A.getD (h - p) 0)) < 0 → Hid (Srch k A x (h + 1 - p) (j - p)) := fun hc => by
        have := srch_up HA.out hsr.out (h := h - p) (by omega) (by omega) (by
          rcases lt_total k (x := A.getD (h - p) 0) (y := x) (by have := HR.out _ hyM; omega) with q | q
          · exact q
          · exact absurd (hkey.2 q) hc)
        rwa [show h - p + 1 = h + 1 - p from by omega] at this
      have hst : cmI (k x) (k (A.getD (h - p) 0)) < 0 → Hid (Srch k A x (i - p) (h - p)) := fun hc => srch_down HA.out hsr.out (h := h - p) (by omega) (by omega) (hkey.1 hc)
      have HU := hidden hup
      have HSt := hidden hst
      clear hup hst hkey hyM g1 g2 hmm hPp hAL hsr
      rw [hln] at *
      generalize hr9 : cmI (k x) (k (A.getD (h - p) 0)) = r9 at *
      generalize A.getD (h - p) 0 = y at *
      have hi1 : (h : Int) < (n : Int) := by omega
      have hi2 : (m : Int) < (n : Int) := by omega
      clear hln
      by_cases hr : r9 < 0
      · have HV := HSt.out hr
        have hrb : decide (r9 < 0) = true := decide_eq_true hr
        clear HU HSt
        go_wp2_with fail
        go_quiet ((go_at_call 134; exact Calls.quiet_of (hK2 _ (st_drewN hb _))))
        go_wp2_with fail
        go_roundw
        case rel => exact ⟨i, h, rfl, rfl, hi, h1, by omega, HV, hs.out.below (st_drewN (Below.refl _ _) _), st_drewN hb _⟩
        case measure => simp [intOf]; omega
      · have HV := HU.out hr
        have hrb : decide (r9 < 0) = false := decide_eq_false hr
        clear HU HSt
        go_wp2_with fail
        go_quiet ((go_at_call 134; exact Calls.quiet_of (hK2 _ (st_drewN hb _))))
        go_wp2_with fail
        go_roundw
        case rel => exact ⟨h + 1, j, by simp, rfl, by omega, by omega, hj, HV, hs.out.below (st_drewN (Below.refl _ _) _), st_drewN hb _⟩
        case measure => simp [intOf]; omega
    · obtain rfl : i = j := by omega
      have HF : Hid (Srt k (mv A x (i - p))) := srch_end HA.out hsr.out
      have hs0 : Hid (SR c wr G (P ++ mv A x (m - p) ++ S)) := by
        have := hs.out
        show SR _ _ _ _
        rw [← HAL.out, mv_all]
        simpa using this
      clear hsr hlt hs
      go_wp2_with fail
      go_loopw [17] (fun kv wr => ∃ (t kn : Nat), kv = .int .i64 kn ∧ Hid (kn = p + t) ∧ i ≤ kn ∧ kn ≤ m ∧ Hid (SR c wr G (P ++ mv A x t ++ S)) ∧ Below G w wr) (fun kv _ => (intOf kv).toNat)
      case atStart => exact ⟨m - p, m, rfl, by show _ = _; omega, by omega, Nat.le_refl _, hs0, hb⟩
      case round =>
        obtain ⟨t, kn, rfl, hkt, hki, hkm, hs2, hb2⟩ := hrel
        by_cases hlt : i < kn
        · have hlti : (i : Int) < (kn : Int) := by omega
          obtain ⟨t, rfl⟩ : ∃ t', t = t' + 1 := ⟨t - 1, by have := hkt.out; omega⟩
          have hkt' := hkt.out
          have hmm := HM.out
          have hPp := HP.out
          have hAL := HAL.out
          have htA : t < A.length := by omega
          have hln : (P ++ mv A x (t + 1) ++ S).length = n := by
            have := HN.out
            simp only [List.length_append, mv_len, List.length_cons] at this ⊢
            omega
          have hjP : kn = P.length + t + 1 := by omega
          have hjP2 : kn - 1 = P.length + t := by omega
          have g1 : (P ++ mv A x (t + 1) ++ S).getD kn 0 = x := by rw [hjP]; exact mv_here P S A x (t + 1) (by omega)
          have g2 : (P ++ mv A x (t + 1) ++ S).getD (kn - 1) 0 = A.getD t 0 := by rw [hjP2]; exact mv_back P S A x t htA
          obtain ⟨e1, f1⟩ := hs2.out.at (i := kn) (by omega)
          obtain ⟨e2, f2⟩ := hs2.out.at (i := kn - 1) (by omega)
          rw [g1] at e1
          rw [g2] at e2
          have HSW := hidden (hs2.out.sw kn (kn - 1))
          rw [g1, g2, show Sy.sw (P ++ mv A x (t + 1) ++ S) kn (kn - 1) = P ++ mv A x t ++ S from by rw [hjP2, hjP]; exact mv_down P S A x t htA] at HSW
          have HBW := hidden ((hb2.setCell (p := ⟨G, kn, none⟩) (Nat.le_refl _) (.int .i64 (A.getD t 0))).setCell (p := ⟨G, kn - 1, none⟩) (Nat.le_refl _) (.int .i64 x))
          have hi1 : ((kn - 1 : Nat) : Int) < (n : Int) := by omega
          have hi2 : (kn : Int) < (n : Int) := by omega
          have hw2 : IntKind.i64.wrap ((kn : Int) - 1) = ((kn - 1 : Nat) : Int) := by rw [IntKind.wrap_i64]; omega
          clear g1 g2 hjP hjP2 hmm hPp hAL htA hkt' hln
          generalize A.getD t 0 = y at *
          go_wp2_with fail
          go_region
          all_goals go_wp2_with fail
          all_goals go_roundw
          case rel => exact ⟨t, kn - 1, by first | rfl | congr 1, by show _ = _; have := hkt.out; omega, by omega, by omega, by first | exact HSW | exact HSW.out.below (st_drew (Below.refl _ _)), by first | exact HBW.out | exact st_drew HBW.out⟩
          case measure => simp [intOf]; omega
        · have hlti : ¬ (i : Int) < (kn : Int) := by omega
          have HE : Hid (SR c wr G (P ++ mv A x (i - p) ++ S)) := by
            have := hs2.out
            rwa [show t = i - p from by have := hkt.out; omega] at this
          have hpe : Hid ((mv A x (i - p)).Perm (A ++ [x])) := (mv_perm _ _ _).trans (List.perm_append_singleton x A).symm
          go_wp2_with fail
          (try simp only [Exit.inBlock, Exit.then])
          refine bodyPost_ret (results_none rfl _ _ _) rfl ?_
          exact ⟨rfl, mv A x (i - p), by first | exact HE.out | (rw [← List.append_assoc]; exact HE.out), hpe.out, HF.out, hb2⟩
end Go.Proofs.Ytgcpiinmcbdkmaa
