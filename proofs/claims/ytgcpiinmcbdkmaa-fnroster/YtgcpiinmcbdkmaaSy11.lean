/-
  Sorting in place, who is equal staying in order: runs of twenty, merged.
-/
import Derived.Test.YtgcpiinmcbdkmaaSy10
namespace Go.Proofs.Ytgcpiinmcbdkmaa
open Go.RowKit Go.WideShapes Va Lb Go.Maps Sy
set_option linter.all false

set_option maxRecDepth 20000 in
set_option maxHeartbeats 8000000 in
theorem stableA_any (k : Int → Int) (D : Int → Prop) (V : Value) (G c n : Nat) (L : List Int) (w : World) (h : SR c w G L) (hn : L.length = n) (hl : n < 20) (hD : ∀ x ∈ L, D x) (hr : L.Pairwise (· < ·)) (hK : LessC G w k D V) :
    Calls Try.prog 149 #[.slice (some ⟨G, 0, none⟩) n c, .int .i64 n, .func (.func 134) #[] #[V]] w fun e w' => e = .returned (.tuple #[]) ∧ ∃ M, SR c w' G M ∧ M.Perm L ∧ Srt k M ∧ Below G w w' := by
  have k1 := insertion_any k D V G c n [] L [] w (by simpa using h) (by simpa using hn) (by omega) hD hr hK
  rw [show ([] : List Int).length + L.length = n from by simp [hn]] at k1
  have hni : (n : Int) < 20 := by omega
  clear h hn hD hr hK
  go_enter Try.func149, Try.ntmps149
  go_wp2_with fail
  go_loopw [7, 8] (fun av bv wr => wr = w ∧ av = .int .i64 0 ∧ bv = .int .i64 20) (fun _ _ _ => 0)
  case atStart => exact ⟨rfl, rfl, rfl⟩
  case round =>
    obtain ⟨rfl, rfl, rfl⟩ := hrel
    go_wp2_with (go_at_call 167; refine k1.mono ?_; rintro e w2 ⟨rfl, M, hs2, hpm, hsm, hb2⟩; have HS2 := hidden hs2; have HPM := hidden hpm; have HSM := hidden hsm; clear hs2 hpm hsm)
    go_loopw [6, 7, 8, 9] (fun bs _ _ _ wr => wr = w2 ∧ bs = .int .i64 20) (fun _ _ _ _ _ => 0)
    case atStart => exact ⟨rfl, rfl⟩
    case round =>
      obtain ⟨rfl, rfl⟩ := hrel
      go_wp2_with fail
      go_end0
      exact ⟨rfl, M, by have := HS2.out; simpa using this, HPM.out, HSM.out, hb2⟩

set_option maxRecDepth 20000 in
set_option maxHeartbeats 8000000 in
theorem stableB_any (k : Int → Int) (D : Int → Prop) (V : Value) (G c n : Nat) (L : List Int) (w : World) (h : SR c w G L) (hn : L.length = n) (h20 : 20 ≤ n) (hl : n < 40) (hD : ∀ x ∈ L, D x) (hr : L.Pairwise (· < ·)) (hK : LessC G w k D V) :
    Calls Try.prog 149 #[.slice (some ⟨G, 0, none⟩) n c, .int .i64 n, .func (.func 134) #[] #[V]] w fun e w' => e = .returned (.tuple #[]) ∧ ∃ M, SR c w' G M ∧ M.Perm L ∧ Srt k M ∧ Below G w w' := by
  obtain ⟨L1, L2, rfl, hL1⟩ := cut_at L 20 (by omega)
  have hL2 : L2.length = n - 20 := by simp at hn; omega
  obtain ⟨hr1, hr2, hr3⟩ := List.pairwise_append.1 hr
  have k1 := insertion_any k D V G c n [] L1 L2 w (by simpa using h) (by simpa using hn) (by omega) (fun x hx => hD x (List.mem_append_left _ hx)) hr1 hK
  rw [show ([] : List Int).length + L1.length = 20 from by simp [hL1]] at k1
  have k2 : Hid (∀ M1 wa, SR c wa G ([] ++ M1 ++ L2) → M1.Perm L1 → Below G w wa → Calls Try.prog 167 #[.slice (some ⟨G, 0, none⟩) n c, .int .i64 20, .int .i64 n, .func (.func 134) #[] #[V]] wa fun e w' => e = .returned (.tuple #[]) ∧ ∃ M2, SR c w' G (M1 ++ M2) ∧ M2.Perm L2 ∧ Srt k M2 ∧ Below G wa w') := fun M1 wa hs hp hb => by
    have hl1 : M1.length = 20 := by rw [hp.length_eq]; exact hL1
    have h9 := insertion_any k D V G c n M1 L2 [] wa (by simpa using hs) (by simp; omega) (by omega) (fun x hx => hD x (List.mem_append_right _ hx)) hr2 (hK.below hb)
    rw [show M1.length + L2.length = n from by omega, hl1] at h9
    refine h9.mono ?_
    rintro e w' ⟨he, M2, q1, q2, q3, q4⟩
    exact ⟨he, M2, by simpa using q1, q2, q3, q4⟩
  have k3 : Hid (∀ M1 M2 wa, 20 < n → SR c wa G (M1 ++ M2) → M1.Perm L1 → M2.Perm L2 → Srt k M1 → Srt k M2 → Below G w wa → Calls Try.prog 168 #[.slice (some ⟨G, 0, none⟩) n c, .int .i64 0, .int .i64 20, .int .i64 n, .func (.func 134) #[] #[V]] wa fun e w' => e = .returned (.tuple #[]) ∧ ∃ M, SR c w' G M ∧ M.Perm (L1 ++ L2) ∧ Srt k M ∧ Below G wa w') := fun M1 M2 wa hgt hs hp1 hp2 hs1 hs2 hb => by
    have hl1 : M1.length = 20 := by rw [hp1.length_eq]; exact hL1
    have hl2 : M2.length = n - 20 := by rw [hp2.length_eq]; exact hL2
    have h9 := sym_any k D V G c n (by omega) (M1.length + M2.length) [] M1 M2 [] 0 20 n wa (Nat.le_refl _) (by simpa using hs) (by simp; omega) rfl (by omega) (by omega) (by omega) (by omega)
      (fun x hx => hD x (List.mem_append_left _ (hp1.mem_iff.1 hx))) (fun x hx => hD x (List.mem_append_right _ (hp2.mem_iff.1 hx)))
      (fun x hx y hy => hr3 x (hp1.mem_iff.1 hx) y (hp2.mem_iff.1 hy)) hs1 hs2 (hK.below hb)
    refine h9.mono ?_
    rintro e w' ⟨he, M, q1, q2, q3, q4⟩
    exact ⟨he, M, by simpa using q1, q2.trans (hp1.append hp2), q3, q4⟩
  have h40 : ¬ (40 : Int) ≤ (n : Int) := by omega
  have h40b : ¬ (40 : Int) < (n : Int) := by omega
  have h20i : (20 : Int) ≤ (n : Int) := by omega
  have K1 := hidden k1
  have HE : Hid (n = 20 → ∀ M1 M2 : List Int, M1.Perm L1 → M2.Perm L2 → Srt k M1 → (M1 ++ M2).Perm (L1 ++ L2) ∧ Srt k (M1 ++ M2)) := fun e M1 M2 hp1 hp2 hs1 => by
    have hl2 : M2.length = 0 := by rw [hp2.length_eq, hL2]; omega
    refine ⟨hp1.append hp2, ?_⟩
    rw [List.length_eq_zero_iff.1 hl2, List.append_nil]; exact hs1
  clear h hn hD hr hK hL1 hL2 hr1 hr2 hr3 k1
  go_enter Try.func149, Try.ntmps149
  go_wp2_with fail
  go_loopw [7, 8] (fun av bv wr => (wr = w ∧ av = .int .i64 0 ∧ bv = .int .i64 20) ∨ (av = .int .i64 20 ∧ bv = .int .i64 40 ∧ ∃ M1, Hid (SR c wr G ([] ++ M1 ++ L2)) ∧ Hid (M1.Perm L1) ∧ Hid (Srt k M1) ∧ Below G w wr)) (fun _ bv _ => 40 - (intOf bv).toNat)
  case atStart => exact Or.inl ⟨rfl, rfl, rfl⟩
  case round =>
    rcases hrel with ⟨hw9, rfl, rfl⟩ | ⟨rfl, rfl, M1, hs, hp, hm, hb⟩
    · obtain rfl := hw9.symm
      go_wp2_with (go_at_call 167; refine K1.out.mono ?_; rintro e w2 ⟨rfl, M, hs2, hpm, hsm, hb2⟩; have HS2 := hidden hs2; have HPM := hidden hpm; have HSM := hidden hsm; clear hs2 hpm hsm)
      go_roundw
      case rel => exact Or.inr ⟨rfl, rfl, M, HS2, HPM, HSM, hb2⟩
      case measure => simp [intOf]
    · have k2' := k2.out M1 _ hs.out hp.out hb
      go_wp2_with (go_at_call 167; refine k2'.mono ?_; rintro e w2 ⟨rfl, M2, hs2, hpm, hsm, hb2⟩; have HS2 := hidden hs2; have HPM := hidden hpm; have HSM := hidden hsm; have bA := hb.trans hb2; clear hs2 hpm hsm hb2)
      by_cases hgt : 20 < n
      · have hgti : (20 : Int) < (n : Int) := by omega
        go_loopw [6, 7, 8, 9] (fun bs _ _ _ wr => (wr = w2 ∧ bs = .int .i64 20) ∨ (bs = .int .i64 40 ∧ ∃ M, Hid (SR c wr G M) ∧ Hid (M.Perm (L1 ++ L2)) ∧ Hid (Srt k M) ∧ Below G w wr)) (fun bs _ _ _ _ => 40 - (intOf bs).toNat)
        case atStart => exact Or.inl ⟨rfl, rfl⟩
        case round =>
          rcases hrel with ⟨hw9, rfl⟩ | ⟨rfl, M, hs3, hp3, hm3, hb3⟩
          · obtain rfl := hw9.symm
            have k3' := k3.out M1 M2 _ hgt HS2.out hp.out HPM.out hm.out HSM.out bA
            go_wp2_with fail
            go_loopw [7, 8] (fun av bv wr3 => wr3 = w2 ∧ av = .int .i64 0 ∧ bv = .int .i64 40) (fun _ _ _ => 0)
            case atStart => exact ⟨rfl, rfl, rfl⟩
            case round =>
              obtain ⟨hw9, rfl, rfl⟩ := hrel
              obtain rfl := hw9.symm
              go_wp2_with (go_at_call 168; refine k3'.mono ?_; rintro e w4 ⟨rfl, M, hs4, hp4, hm4, hb4⟩; have HS4 := hidden hs4; have HP4 := hidden hp4; have HM4 := hidden hm4; have bB := bA.trans hb4; clear hs4 hp4 hm4 hb4)
              go_roundw
              case rel => exact Or.inr ⟨rfl, M, HS4, HP4, HM4, bB⟩
              case measure => simp [intOf]
          · go_wp2_with fail
            go_end0
            exact ⟨rfl, M, hs3.out, hp3.out, hm3.out, hb3⟩
      · have hgti : ¬ (20 : Int) < (n : Int) := by omega
        obtain ⟨j1, j2⟩ := HE.out (by omega) M1 M2 hp.out HPM.out hm.out
        have J1 := hidden j1
        have J2 := hidden j2
        clear j1 j2
        go_loopw [6, 7, 8, 9] (fun bs _ _ _ wr => wr = w2 ∧ bs = .int .i64 20) (fun _ _ _ _ _ => 0)
        case atStart => exact ⟨rfl, rfl⟩
        case round =>
          obtain ⟨hw9, rfl⟩ := hrel
          obtain rfl := hw9.symm
          go_wp2_with fail
          go_end0
          exact ⟨rfl, M1 ++ M2, HS2.out, J1.out, J2.out, bA⟩

set_option maxRecDepth 20000 in
set_option maxHeartbeats 8000000 in
theorem stablesort_any (k : Int → Int) (D : Int → Prop) (V : Value) (G c n : Nat) (L : List Int) (w : World) (h : SR c w G L) (hn : L.length = n) (hl : n < 40) (hD : ∀ x ∈ L, D x) (hr : L.Pairwise (· < ·)) (hK : LessC G w k D V) :
    Calls Try.prog 133 #[.slice (some ⟨G, 0, none⟩) n c, .func (.func 134) #[] #[V]] w fun e w' => e = .returned (.tuple #[]) ∧ ∃ M, SR c w' G M ∧ M.Perm L ∧ Srt k M ∧ Below G w w' := by
  have k1 : Calls Try.prog 149 #[.slice (some ⟨G, 0, none⟩) n c, .int .i64 n, .func (.func 134) #[] #[V]] w fun e w' => e = .returned (.tuple #[]) ∧ ∃ M, SR c w' G M ∧ M.Perm L ∧ Srt k M ∧ Below G w w' := by
    by_cases q : n < 20
    · exact stableA_any k D V G c n L w h hn q hD hr hK
    · exact stableB_any k D V G c n L w h hn (by omega) hl hD hr hK
  clear h hn hD hr hK
  go_enter Try.func133, Try.ntmps133
  go_wp2_with (go_at_call 149; refine k1.mono ?_; rintro e w2 ⟨rfl, M, hs2, hpm, hsm, hb2⟩; have HS2 := hidden hs2; have HPM := hidden hpm; have HSM := hidden hsm; clear hs2 hpm hsm)
  go_end0
  exact ⟨rfl, M, HS2.out, HPM.out, HSM.out, hb2⟩
end Go.Proofs.Ytgcpiinmcbdkmaa
