/-
  Merging in place where one run has one number.
-/
import Derived.Test.YtgcpiinmcbdkmaaSy6
namespace Go.Proofs.Ytgcpiinmcbdkmaa
open Go.RowKit Go.WideShapes Va Lb Go.Maps Sy
set_option linter.all false

set_option maxRecDepth 20000 in
set_option maxHeartbeats 8000000 in
theorem symlow_any (k : Int → Int) (D : Int → Prop) (V : Value) (G c n p m b : Nat) (x : Int) (P B S : List Int) (w : World) (h : SR c w G (P ++ x :: B ++ S)) (hn : (P ++ x :: B ++ S).length = n) (hl : n ≤ 1000) (hp : P.length = p) (hm : m = p + 1) (hb : b = m + B.length) (hDx : D x) (hD : ∀ y ∈ B, D y) (hr : ∀ y ∈ B, x < y) (hB : Srt k B) (hK : LessC G w k D V) :
    Calls Try.prog 168 #[.slice (some ⟨G, 0, none⟩) n c, .int .i64 p, .int .i64 m, .int .i64 b, .func (.func 134) #[] #[V]] w fun e w' => e = .returned (.tuple #[]) ∧ ∃ M, SR c w' G (P ++ M ++ S) ∧ M.Perm (x :: B) ∧ Srt k M ∧ Below G w w' := by
  have hbn : b ≤ n := by rw [← hn]; simp; omega
  have hmb : m ≤ b := by omega
  have HBL : Hid (B.length = b - m) := by show _ = _; omega
  have HP := hidden hp
  have HN := hidden hn
  have HH := hidden h
  have HD := hidden hD
  have HR := hidden hr
  have HB := hidden hB
  have HK := hidden hK
  have HM := hidden hm
  have hpm : p < m := by omega
  have hw0 : IntKind.i64.wrap ((m : Int) - (p : Int)) = 1 := by rw [IntKind.wrap_i64]; omega
  clear h hn hp hm hb hD hr hB hK
  go_enter Try.func168, Try.ntmps168
  go_wp2_with fail
  go_loopw [10, 11, 12] (fun iv jv _ wr => ∃ (i j : Nat), iv = .int .i64 i ∧ jv = .int .i64 j ∧ m ≤ i ∧ i ≤ j ∧ j ≤ b ∧ Hid (Srch k B x (i - m) (j - m)) ∧ Hid (SR c wr G (P ++ x :: B ++ S)) ∧ Below G w wr) (fun iv jv _ _ => (intOf jv).toNat - (intOf iv).toNat)
  case atStart => exact ⟨m, b, rfl, rfl, Nat.le_refl _, hmb, Nat.le_refl _, by show Srch _ _ _ _ _; rw [Nat.sub_self, ← HBL.out]; exact srch_start _ _ _, HH, Below.refl _ _⟩
  case round =>
    obtain ⟨i, j, rfl, rfl, hi, hij, hj, hsr, hs, hb⟩ := hrel
    by_cases hlt : i < j
    · have hlti : (i : Int) < (j : Int) := by omega
      obtain ⟨h, hh⟩ : ∃ h, (i + j) / 2 = h := ⟨_, rfl⟩
      have hI : ((i : Int) + (j : Int)) / 2 = (h : Int) := by omega
      have h1 : i ≤ h := by omega
      have h2 : h < j := by omega
      clear hh
      have hmm := HM.out
      have hPp := HP.out
      have hln := HN.out
      have hBL := HBL.out
      obtain ⟨e1, f1⟩ := hs.out.at (i := h) (by omega)
      obtain ⟨e2, f2⟩ := hs.out.at (i := p) (by omega)
      have g2 : (P ++ x :: B ++ S).getD p 0 = x := by rw [← hPp]; have := mv_here P S B x 0 (by omega); simpa [mv_zero] using this
      have g1 : (P ++ x :: B ++ S).getD h 0 = B.getD (h - m) 0 := by
        rw [show P ++ x :: B ++ S = (P ++ [x]) ++ (B ++ S) from by simp, getD_app2 (by simp; omega), getD_app (by simp; omega)]
        congr 1; simp; omega
      have hyM : B.getD (h - m) 0 ∈ B := by rw [List.getD_eq_getElem?_getD, List.getElem?_eq_getElem (by omega : h - m < B.length)]; exact List.getElem_mem _
      rw [g1] at e1
      rw [g2] at e2
      have hK2 := fun W hW => HK.out (B.getD (h - m) 0) x (HD.out _ hyM) hDx W hW
      have hkey : cmI (k (B.getD (h - m) 0)) (k x) < 0 ↔ lt k (B.getD (h - m) 0) x := cmI_lt.trans (lt_key (HR.out _ hyM)).symm
      have hup : cmI (k (B.getD (h - m) 0)) (k x) < 0 → Hid (Srch k B x (h + 1 - m) (j - m)) := fun hc => by
        have := srch_up HB.out hsr.out (h := h - m) (by omega) (by omega) (hkey.1 hc)
        rwa [show h - m + 1 = h + 1 - m from by omega] at this
      have hst : ¬ cmI (k (B.getD (h - m) 0)) (k x) < 0 → Hid (Srch k B x (i - m) (h - m)) := fun hc => by
        refine srch_down HB.out hsr.out (h := h - m) (by omega) (by omega) ?_
        rcases lt_total k (x := B.getD (h - m) 0) (y := x) (by have := HR.out _ hyM; omega) with q | q
        · exact absurd (hkey.2 q) hc
        · exact q
      have HU := hidden hup
      have HSt := hidden hst
      clear hup hst hkey hyM g1 g2 hmm hPp hBL hsr
      rw [hln] at *
      generalize hr9 : cmI (k (B.getD (h - m) 0)) (k x) = r9 at *
      generalize B.getD (h - m) 0 = y at *
      have hi1 : (h : Int) < (n : Int) := by omega
      have hi2 : (p : Int) < (n : Int) := by omega
      clear hln
      by_cases hr : r9 < 0
      · have HV := HU.out hr
        clear HU HSt
        go_wp2_with fail
        go_quiet ((go_at_call 134; exact Calls.quiet_of (hK2 _ (st_drewN hb _))))
        go_wp2_with fail
        go_roundw
        case rel => exact ⟨h + 1, j, by simp, rfl, by omega, by omega, hj, HV, hs.out.below (st_drewN (Below.refl _ _) _), st_drewN hb _⟩
        case measure => simp [intOf]; omega
      · have HV := HSt.out hr
        clear HU HSt
        go_wp2_with fail
        go_quiet ((go_at_call 134; exact Calls.quiet_of (hK2 _ (st_drewN hb _))))
        go_wp2_with fail
        go_roundw
        case rel => exact ⟨i, h, rfl, rfl, hi, h1, by omega, HV, hs.out.below (st_drewN (Below.refl _ _) _), st_drewN hb _⟩
        case measure => simp [intOf]; omega
    · obtain rfl : i = j := by omega
      have HF : Hid (Srt k (mv B x (i - m))) := srch_end HB.out hsr.out
      have hw1 : IntKind.i64.wrap ((i : Int) - 1) = ((i - 1 : Nat) : Int) := by rw [IntKind.wrap_i64]; omega
      clear hsr hlt
      go_wp2_with fail
      go_loopw [13] (fun kv wr => ∃ (t kn : Nat), kv = .int .i64 kn ∧ Hid (kn = p + t) ∧ kn < i ∧ Hid (SR c wr G (P ++ mv B x t ++ S)) ∧ Below G w wr) (fun kv _ => i - (intOf kv).toNat)
      case atStart => exact ⟨0, p, rfl, rfl, by omega, hs, hb⟩
      case round =>
        obtain ⟨t, kn, rfl, hkt, hki, hs2, hb2⟩ := hrel
        by_cases hlt : kn < i - 1
        · have hlti : (kn : Int) < ((i - 1 : Nat) : Int) := by omega
          have hkt' := hkt.out
          have hmm := HM.out
          have hPp := HP.out
          have hBL := HBL.out
          have htB : t < B.length := by omega
          have hln : (P ++ mv B x t ++ S).length = n := by
            have := HN.out
            simp only [List.length_append, mv_len, List.length_cons] at this ⊢
            omega
          have hjP : kn = P.length + t := by omega
          have hjP2 : kn + 1 = P.length + t + 1 := by omega
          have g1 : (P ++ mv B x t ++ S).getD kn 0 = x := by rw [hjP]; exact mv_here P S B x t (by omega)
          have g2 : (P ++ mv B x t ++ S).getD (kn + 1) 0 = B.getD t 0 := by rw [hjP2]; exact mv_next P S B x t htB
          obtain ⟨e1, f1⟩ := hs2.out.at (i := kn) (by omega)
          obtain ⟨e2, f2⟩ := hs2.out.at (i := kn + 1) (by omega)
          rw [g1] at e1
          rw [g2] at e2
          have HSW := hidden (hs2.out.sw kn (kn + 1))
          rw [g1, g2, show Sy.sw (P ++ mv B x t ++ S) kn (kn + 1) = P ++ mv B x (t + 1) ++ S from by rw [hjP2, hjP]; exact mv_up P S B x t htB] at HSW
          have HBW := hidden ((hb2.setCell (p := ⟨G, kn, none⟩) (Nat.le_refl _) (.int .i64 (B.getD t 0))).setCell (p := ⟨G, kn + 1, none⟩) (Nat.le_refl _) (.int .i64 x))
          have hi1 : ((kn + 1 : Nat) : Int) < (n : Int) := by omega
          have hi2 : (kn : Int) < (n : Int) := by omega
          have hw2 : IntKind.i64.wrap ((kn : Int) + 1) = ((kn + 1 : Nat) : Int) := by rw [IntKind.wrap_i64]; omega
          clear g1 g2 hjP hjP2 hmm hPp hBL htB hkt' hln
          generalize B.getD t 0 = y at *
          go_wp2_with fail
          go_region
          all_goals go_wp2_with fail
          all_goals go_roundw
          case rel => exact ⟨t + 1, kn + 1, by first | rfl | simp, by show _ = _; have := hkt.out; omega, by omega, by first | exact HSW | exact HSW.out.below (st_drew (Below.refl _ _)), by first | exact HBW.out | exact st_drew HBW.out⟩
          case measure => simp [intOf]; omega
        · have hlti : ¬ (kn : Int) < ((i - 1 : Nat) : Int) := by omega
          have HE : Hid (SR c wr G (P ++ mv B x (i - m) ++ S)) := by
            have := hs2.out
            rwa [show t = i - m from by have := hkt.out; have := HM.out; omega] at this
          go_wp2_with fail
          (try simp only [Exit.inBlock, Exit.then])
          refine bodyPost_ret (results_none rfl _ _ _) rfl ?_
          exact ⟨rfl, mv B x (i - m), by first | exact HE.out | (rw [← List.append_assoc]; exact HE.out), mv_perm _ _ _, HF.out, hb2⟩
end Go.Proofs.Ytgcpiinmcbdkmaa
