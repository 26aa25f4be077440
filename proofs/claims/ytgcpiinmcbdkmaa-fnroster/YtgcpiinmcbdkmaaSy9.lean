/-
  Merging two runs in place.
-/
import Derived.Test.YtgcpiinmcbdkmaaSy5
import Derived.Test.YtgcpiinmcbdkmaaSy7
import Derived.Test.YtgcpiinmcbdkmaaSy8
import Derived.Deep.CutBlock
import Derived.Deep.CutRange
namespace Go.Proofs.Ytgcpiinmcbdkmaa
open Go.RowKit Go.WideShapes Va Lb Go.Maps Sy
set_option linter.all false

def SymC (k : Int → Int) (D : Int → Prop) (V : Value) (G c n N : Nat) : Prop :=
  ∀ (P A B S : List Int) (p m b : Nat) (w : World), A.length + B.length ≤ N → SR c w G (P ++ A ++ B ++ S) → (P ++ A ++ B ++ S).length = n → P.length = p → m = p + A.length → b = m + B.length → 1 ≤ A.length → 1 ≤ B.length → (∀ x ∈ A, D x) → (∀ x ∈ B, D x) → Cross A B → Srt k A → Srt k B → LessC G w k D V →
    Calls Try.prog 168 #[.slice (some ⟨G, 0, none⟩) n c, .int .i64 p, .int .i64 m, .int .i64 b, .func (.func 134) #[] #[V]] w fun e w' => e = .returned (.tuple #[]) ∧ ∃ M, SR c w' G (P ++ M ++ S) ∧ M.Perm (A ++ B) ∧ Srt k M ∧ Below G w w'

/-- What is behind the search. -/
def CutAt (k : Int → Int) (A B A1 A2 B1 B2 : List Int) (p m b mid s en : Nat) : Prop :=
  A = A1 ++ A2 ∧ B = B1 ++ B2 ∧ p + A1.length = s ∧ s + B1.length = mid ∧ s + A2.length = m ∧ m + B1.length = en ∧ en + B2.length = b ∧ (∀ x ∈ A1, ∀ y ∈ B2, lt k x y) ∧ (∀ x ∈ B1, ∀ y ∈ A2, lt k x y)

set_option maxRecDepth 20000 in
set_option maxHeartbeats 16000000 in
theorem symgen_any (k : Int → Int) (D : Int → Prop) (V : Value) (G c n N : Nat) (hl : n ≤ 1000) (hIH : SymC k D V G c n N) (P A B S : List Int) (p m b : Nat) (w : World) (hN : A.length + B.length ≤ N + 1) (h : SR c w G (P ++ A ++ B ++ S)) (hn : (P ++ A ++ B ++ S).length = n) (hp : P.length = p) (hm : m = p + A.length) (hb : b = m + B.length) (hA2 : 2 ≤ A.length) (hB2 : 2 ≤ B.length) (hDA : ∀ x ∈ A, D x) (hDB : ∀ x ∈ B, D x) (hx : Cross A B) (hA : Srt k A) (hB : Srt k B) (hK : LessC G w k D V) :
    Calls Try.prog 168 #[.slice (some ⟨G, 0, none⟩) n c, .int .i64 p, .int .i64 m, .int .i64 b, .func (.func 134) #[] #[V]] w fun e w' => e = .returned (.tuple #[]) ∧ ∃ M, SR c w' G (P ++ M ++ S) ∧ M.Perm (A ++ B) ∧ Srt k M ∧ Below G w w' := by
  have hbn : b ≤ n := by rw [← hn]; simp; omega
  have hpm : p + 2 ≤ m := by omega
  have hmb : m + 2 ≤ b := by omega
  obtain ⟨mid, hmid⟩ : ∃ mid, (p + b) / 2 = mid := ⟨_, rfl⟩
  have hmi : ((p : Int) + (b : Int)) / 2 = (mid : Int) := by omega
  have hm1 : p < mid := by omega
  have hm2 : mid < b := by omega
  obtain ⟨nn, hnn⟩ : ∃ nn, mid + m = nn := ⟨_, rfl⟩
  have hw1 : IntKind.i64.wrap ((mid : Int) + (m : Int)) = (nn : Int) := by rw [IntKind.wrap_i64]; omega
  obtain ⟨pp, hpp⟩ : ∃ pp, nn - 1 = pp := ⟨_, rfl⟩
  have hw2 : IntKind.i64.wrap ((nn : Int) - 1) = (pp : Int) := by rw [IntKind.wrap_i64]; omega
  obtain ⟨lo, hlo⟩ : ∃ lo, lo = if mid < m then nn - b else p := ⟨_, rfl⟩
  obtain ⟨hi, hhi⟩ : ∃ hi, hi = if mid < m then mid else m := ⟨_, rfl⟩
  have hL1 : mid < m → lo = nn - b ∧ hi = mid := fun q => ⟨by rw [hlo, if_pos q], by rw [hhi, if_pos q]⟩
  have hL2 : ¬ mid < m → lo = p ∧ hi = m := fun q => ⟨by rw [hlo, if_neg q], by rw [hhi, if_neg q]⟩
  obtain ⟨dd, hdd⟩ : ∃ dd, m - p = dd := ⟨_, rfl⟩
  have hw3 : IntKind.i64.wrap ((m : Int) - (p : Int)) = (dd : Int) := by rw [IntKind.wrap_i64]; omega
  have hd1 : ((dd : Int) == 1) = false := by rw [beq_eq_false_iff_ne]; omega
  obtain ⟨d2, hd2⟩ : ∃ d2, b - m = d2 := ⟨_, rfl⟩
  have hw4 : IntKind.i64.wrap ((b : Int) - (m : Int)) = (d2 : Int) := by rw [IntKind.wrap_i64]; omega
  have hd3 : ((d2 : Int) == 1) = false := by rw [beq_eq_false_iff_ne]; omega
  have hlohi : lo ≤ hi ∧ p ≤ lo ∧ hi ≤ m ∧ hi ≤ mid ∧ nn ≤ lo + b := by
    by_cases q : mid < m
    · obtain ⟨q1, q2⟩ := hL1 q; omega
    · obtain ⟨q1, q2⟩ := hL2 q; omega
  have hcutE : Hid (∀ s, Cuts k (P ++ A ++ B ++ S) lo hi pp s s → ∃ A1 A2 B1 B2, CutAt k A B A1 A2 B1 B2 p m b mid s (nn - s)) := by
    intro s hc
    obtain ⟨A1, A2, B1, B2, z1, z2, z3, z4, z5, z6⟩ := sym_cut (P := P) (A := A) (B := B) (S := S) (lo := lo) (hi := hi) (s := s) (mid := mid) hA hB hx (by omega) (by omega) (by rw [hp, ← hmid, hb, hm]) (by
      rw [hp, ← hm, ← hb, hnn, hlo]) (by rw [hp, ← hm, hhi]) (by
      rw [hp, ← hm, hnn, hpp]; exact hc)
    refine ⟨A1, A2, B1, B2, z1, z2, by omega, z4, ?_, ?_, ?_, z5, z6⟩
    · rw [z1, List.length_append] at hm; omega
    · rw [z1, List.length_append] at hm; omega
    · rw [z2, List.length_append] at hb; rw [z1, List.length_append] at hm; omega
  have HN := hidden hN
  have HH := hidden h
  have HNn := hidden hn
  have HP := hidden hp
  have HM := hidden hm
  have HBb := hidden hb
  have HDA := hidden hDA
  have HDB := hidden hDB
  have HX := hidden hx
  have HA := hidden hA
  have HB := hidden hB
  have HK := hidden hK
  have HI := hidden hIH
  have HL1 := hidden hL1
  have HL2 := hidden hL2
  have HLH := hidden hlohi
  have HE1 : Hid (mid + m = nn) := hnn
  have HE2 : Hid (nn - 1 = pp) := hpp
  have hw5 : IntKind.i64.wrap ((nn : Int) - (b : Int)) = ((nn - b : Nat) : Int) ∨ ¬ mid < m := by
    by_cases q : mid < m
    · refine Or.inl ?_; rw [IntKind.wrap_i64]; omega
    · exact Or.inr q
  have HW5 := hidden hw5
  have HNB : Hid (nn ≤ 2 * n) := by show _ ≤ _; omega
  clear hN h hn hp hm hb hA2 hB2 hDA hDB hx hA hB hK hIH hmid hnn hpp hlo hhi hL1 hL2 hdd hd2 hlohi hw5
  go_enter Try.func168, Try.ntmps168
  go_upto_if 140 with fail
  go_cut [20, 21] from 138 to 146 (fun sv rv wx => wx = w ∧ sv = .int .i64 lo ∧ rv = .int .i64 hi)
  case first =>
    by_cases q : mid < m
    · have qi : (mid : Int) < (m : Int) := by omega
      obtain ⟨q1, q2⟩ := HL1.out q
      have q3 := HW5.out.resolve_right (by omega)
      go_wp2_with fail
      go_meet
      case rel => exact ⟨rfl, by rw [q1], by rw [q2]⟩
    · have qi : ¬ (mid : Int) < (m : Int) := by omega
      obtain ⟨q1, q2⟩ := HL2.out q
      go_wp2_with fail
      go_meet
      case rel => exact ⟨rfl, by rw [q1], by rw [q2]⟩
  case rest =>
    obtain ⟨hc9, rfl, rfl⟩ := hcut
    obtain rfl := hc9.symm
    have hlohi := HLH.out
    go_wp2_with fail
    go_loopw [20, 21, 23] (fun iv jv _ wr => ∃ (i j : Nat), iv = .int .i64 i ∧ jv = .int .i64 j ∧ lo ≤ i ∧ i ≤ j ∧ j ≤ hi ∧ Hid (Cuts k (P ++ A ++ B ++ S) lo hi pp i j) ∧ Hid (SR c wr G (P ++ A ++ B ++ S)) ∧ Below G w wr) (fun iv jv _ _ => (intOf jv).toNat - (intOf iv).toNat)
    case atStart => exact ⟨lo, hi, rfl, rfl, Nat.le_refl _, hlohi.1, Nat.le_refl _, ⟨Nat.le_refl _, hlohi.1, Nat.le_refl _, Or.inl rfl, Or.inl rfl⟩, HH, Below.refl _ _⟩
    case round =>
      obtain ⟨i, j, rfl, rfl, hi9, hij, hj9, hsr, hs, hb⟩ := hrel
      by_cases hlt : i < j
      · have hlti : (i : Int) < (j : Int) := by omega
        obtain ⟨h, hh⟩ : ∃ h, (i + j) / 2 = h := ⟨_, rfl⟩
        have hI : ((i : Int) + (j : Int)) / 2 = (h : Int) := by omega
        have h1 : i ≤ h := by omega
        have h2 : h < j := by omega
        clear hh
        have hmm := HM.out
        have hPp := HP.out
        have hln := HNn.out
        have hBb := HBb.out
        have hE1 := HE1.out
        have hE2 := HE2.out
        obtain ⟨u, hu⟩ : ∃ u, pp - h = u := ⟨_, rfl⟩
        have hu1 : m ≤ u ∧ u < b := by omega
        have hu2 : IntKind.i64.wrap ((pp : Int) - (h : Int)) = (u : Int) := by rw [IntKind.wrap_i64]; omega
        obtain ⟨e1, f1⟩ := hs.out.at (i := h) (by omega)
        obtain ⟨e2, f2⟩ := hs.out.at (i := u) (by omega)
        have g1 : (P ++ A ++ B ++ S).getD h 0 = A.getD (h - p) 0 := by
          rw [List.append_assoc, getD_app (by simp; omega), getD_app2 (by omega), hPp]
        have g2 : (P ++ A ++ B ++ S).getD u 0 = B.getD (u - m) 0 := by
          rw [getD_app (by simp; omega), getD_app2 (by simp; omega)]; congr 1; simp; omega
        have hyA : A.getD (h - p) 0 ∈ A := by rw [List.getD_eq_getElem?_getD, List.getElem?_eq_getElem (by omega : h - p < A.length)]; exact List.getElem_mem _
        have hyB : B.getD (u - m) 0 ∈ B := by rw [List.getD_eq_getElem?_getD, List.getElem?_eq_getElem (by omega : u - m < B.length)]; exact List.getElem_mem _
        have hkey : cmI (k (B.getD (u - m) 0)) (k (A.getD (h - p) 0)) < 0 ↔ k ((P ++ A ++ B ++ S).getD (pp - h) 0) < k ((P ++ A ++ B ++ S).getD h 0) := by
          rw [hu, g1, g2]; exact cmI_lt
        rw [g1] at e1
        rw [g2] at e2
        have hK2 := fun W hW => HK.out (B.getD (u - m) 0) (A.getD (h - p) 0) (HDB.out _ hyB) (HDA.out _ hyA) W hW
        have hup : ¬ cmI (k (B.getD (u - m) 0)) (k (A.getD (h - p) 0)) < 0 → Hid (Cuts k (P ++ A ++ B ++ S) lo hi pp (h + 1) j) := fun hc => cuts_up hsr.out h1 h2 (fun q => hc (hkey.2 q))
        have hst : cmI (k (B.getD (u - m) 0)) (k (A.getD (h - p) 0)) < 0 → Hid (Cuts k (P ++ A ++ B ++ S) lo hi pp i h) := fun hc => cuts_down hsr.out h1 h2 (hkey.1 hc)
        have HU := hidden hup
        have HSt := hidden hst
        have hi1 : (h : Int) < (n : Int) := by omega
        have hi2 : (u : Int) < (n : Int) := by omega
        clear hup hst hkey hyA hyB g1 g2 hmm hPp hBb hsr hu hE1 hE2
        rw [hln] at *
        generalize hr9 : cmI (k (B.getD (u - m) 0)) (k (A.getD (h - p) 0)) = r9 at *
        generalize B.getD (u - m) 0 = y at *
        generalize A.getD (h - p) 0 = z at *
        clear hln
        by_cases hr : r9 < 0
        · have HV := HSt.out hr
          have hrb : decide (r9 < 0) = true := decide_eq_true hr
          clear HU HSt
          go_wp2_with fail
          go_quiet ((go_at_call 134; exact Calls.quiet_of (hK2 _ (st_drewN hb _))))
          go_wp2_with fail
          go_roundw
          case rel => exact ⟨i, h, rfl, rfl, hi9, h1, by omega, HV, hs.out.below (st_drewN (Below.refl _ _) _), st_drewN hb _⟩
          case measure => simp [intOf]; omega
        · have HV := HU.out hr
          have hrb : decide (r9 < 0) = false := decide_eq_false hr
          clear HU HSt
          go_wp2_with fail
          go_quiet ((go_at_call 134; exact Calls.quiet_of (hK2 _ (st_drewN hb _))))
          go_wp2_with fail
          go_roundw
          case rel => exact ⟨h + 1, j, by simp, rfl, by omega, by omega, hj9, HV, hs.out.below (st_drewN (Below.refl _ _) _), st_drewN hb _⟩
          case measure => simp [intOf]; omega
      · obtain rfl : i = j := by omega
        obtain ⟨A1, A2, B1, B2, hcc⟩ := hcutE.out i hsr.out
        have HC := hidden hcc
        obtain ⟨en, hen⟩ : ∃ en, nn - i = en := ⟨_, rfl⟩
        have hE1 := HE1.out
        have hNB := HNB.out
        have hw6 : IntKind.i64.wrap ((nn : Int) - (i : Int)) = (en : Int) := by rw [IntKind.wrap_i64]; omega
        rw [hen] at HC
        obtain ⟨z1, z2, z3, z4, z5, z6, z7, z8, z9⟩ := HC.out
        have hs1 : Hid (SR c wr G ((P ++ A1) ++ A2 ++ B1 ++ (B2 ++ S))) := by
          have := hs.out
          show SR _ _ _ _
          rw [z1, z2] at this
          simpa using this
        have hN1 : Hid (((P ++ A1) ++ A2 ++ B1 ++ (B2 ++ S)).length = n) := by
          have := HNn.out
          show _ = _
          rw [z1, z2] at this
          simpa using this
        have hq := HP.out
        have hl1 : Hid (p + A1.length = i ∧ i + B1.length = mid ∧ i + A2.length = m ∧ m + B1.length = en ∧ en + B2.length = b ∧ P.length = p) := ⟨z3, z4, z5, z6, z7, hq⟩
        clear hcc hsr hE1 hNB z1 z2 z3 z4 z5 z6 z7 z8 z9 hen hlt hs hq
        obtain ⟨T1, hT1⟩ : ∃ T1, decide (i < m ∧ m < en) = T1 := ⟨_, rfl⟩
        obtain ⟨T2, hT2⟩ : ∃ T2, decide (p < i ∧ i < mid) = T2 := ⟨_, rfl⟩
        obtain ⟨T3, hT3⟩ : ∃ T3, decide (mid < en ∧ en < b) = T3 := ⟨_, rfl⟩
        have HT1 := hidden hT1
        have HT2 := hidden hT2
        have HT3 := hidden hT3
        clear hT1 hT2 hT3
        go_upto_region 39 with fail
        go_cut [185] (fun tv wx => wx = wr ∧ tv = .bool T1)
        case first =>
          have hT := HT1.out
          by_cases q1 : i < m
          · have r1 : (i : Int) < (m : Int) := by omega
            by_cases q2 : m < en
            · have r2 : (m : Int) < (en : Int) := by omega
              go_wp2_with fail
              go_meet
              case rel => exact ⟨rfl, by rw [← hT]; simp [q1, q2]⟩
            · have r2 : ¬ (m : Int) < (en : Int) := by omega
              go_wp2_with fail
              go_meet
              case rel => exact ⟨rfl, by rw [← hT]; simp [q1, q2]⟩
          · have r1 : ¬ (i : Int) < (m : Int) := by omega
            go_wp2_with fail
            go_meet
            case rel => exact ⟨rfl, by rw [← hT]; simp [q1]⟩
        case rest =>
          obtain ⟨hc9, rfl⟩ := hcut
          obtain rfl := hc9.symm
          have hl1' := hl1.out
          obtain ⟨l1, l2, l3, l4, l5, l6⟩ := hl1'
          have k1 : 0 < A2.length → 0 < B1.length → Calls Try.prog 176 #[.slice (some ⟨G, 0, none⟩) n c, .int .i64 i, .int .i64 m, .int .i64 en, (.func (.func 134) #[] #[V])] wr fun e w' => e = .returned (.tuple #[]) ∧ SR c w' G (P ++ A1 ++ B1 ++ A2 ++ (B2 ++ S)) ∧ Below G wr w' := fun q1 q2 => by
            have h := rotate_any G c n (P ++ A1) A2 B1 (B2 ++ S) ((.func (.func 134) #[] #[V])) wr hs1.out hN1.out hl q1 q2
            rw [show (P ++ A1).length = i from by simp; omega, l3, l4] at h
            exact h
          have HT := hidden (show T1 = false → SR c wr G (P ++ A1 ++ B1 ++ A2 ++ (B2 ++ S)) from fun q => by
            have h1 := HT1.out
            rw [q] at h1
            have h2 := of_decide_eq_false h1
            have h3 := hs1.out
            rcases (show A2.length = 0 ∨ B1.length = 0 by omega) with r | r
            · rw [List.length_eq_zero_iff.1 r] at h3 ⊢; simpa using h3
            · rw [List.length_eq_zero_iff.1 r] at h3 ⊢; simpa using h3)
          have HT' := hidden (show T1 = true → 0 < A2.length ∧ 0 < B1.length from fun q => by
            have h1 := HT1.out
            rw [q] at h1
            have h2 := of_decide_eq_true h1
            omega)
          clear l1 l2 l3 l4 l5 l6
          go_upto_if 185 with fail
          go_cut [] from 186 to 191 (fun wx => Hid (SR c wx G (P ++ A1 ++ B1 ++ A2 ++ (B2 ++ S))) ∧ Below G w wx)
          case first =>
            cases T1 with
            | true =>
              obtain ⟨q1, q2⟩ := HT'.out rfl
              have hc := k1 q1 q2
              go_wp2_with (go_at_call 176; refine hc.mono ?_; rintro e w2 ⟨rfl, hs2, hb2⟩; have HS2 := hidden hs2; have bA := hb.trans hb2; clear hs2 hb2)
              go_meet
              case rel => exact ⟨HS2, bA⟩
            | false =>
              have HS2 := hidden (HT.out rfl)
              go_wp2_with fail
              go_meet
              case rel => exact ⟨HS2, hb⟩
          case rest =>
            obtain ⟨hs2, hb2⟩ := hcut
            rename World => w2
            clear k1 HT HT' hs1 hN1 hb
            go_upto_region 41 with fail
            go_cut [199] (fun tv wx => wx = w2 ∧ tv = .bool T2)
            case first =>
              have hT := HT2.out
              by_cases q1 : p < i
              · have r1 : (p : Int) < (i : Int) := by omega
                by_cases q2 : i < mid
                · have r2 : (i : Int) < (mid : Int) := by omega
                  go_wp2_with fail
                  go_meet
                  case rel => exact ⟨rfl, by rw [← hT]; simp [q1, q2]⟩
                · have r2 : ¬ (i : Int) < (mid : Int) := by omega
                  go_wp2_with fail
                  go_meet
                  case rel => exact ⟨rfl, by rw [← hT]; simp [q1, q2]⟩
              · have r1 : ¬ (p : Int) < (i : Int) := by omega
                go_wp2_with fail
                go_meet
                case rel => exact ⟨rfl, by rw [← hT]; simp [q1]⟩
            case rest =>
              obtain ⟨hc9, rfl⟩ := hcut
              obtain rfl := hc9.symm
              have hl1' := hl1.out
              obtain ⟨l1, l2, l3, l4, l5, l6⟩ := hl1'
              obtain ⟨z1, z2, z3, z4, z5, z6, z7, z8, z9⟩ := HC.out
              have sA1 : Srt k A1 := by have := HA.out; rw [z1] at this; exact (srt_app.1 this).1
              have sB1 : Srt k B1 := by have := HB.out; rw [z2] at this; exact (srt_app.1 this).1
              have hNt := HN.out
              rw [z1, z2, List.length_append, List.length_append] at hNt
              have hlen2 : (P ++ A1 ++ B1 ++ (A2 ++ (B2 ++ S))).length = n := by
                have := HNn.out
                rw [z1, z2] at this
                simp only [List.length_append] at this ⊢
                omega
              have k1 : 0 < A1.length → 0 < B1.length → Calls Try.prog 168 #[.slice (some ⟨G, 0, none⟩) n c, .int .i64 p, .int .i64 i, .int .i64 mid, (.func (.func 134) #[] #[V])] w2 fun e w' => e = .returned (.tuple #[]) ∧ ∃ M, SR c w' G (P ++ M ++ (A2 ++ (B2 ++ S))) ∧ M.Perm (A1 ++ B1) ∧ Srt k M ∧ Below G w2 w' := fun q1 q2 =>
                HI.out P A1 B1 (A2 ++ (B2 ++ S)) p i mid w2 (by have := HM.out; have := HBb.out; omega) (by have := hs2.out; simpa using this) hlen2 l6 l1.symm l2.symm q1 q2
                  (fun x hx => HDA.out x (by rw [z1]; exact List.mem_append_left _ hx)) (fun x hx => HDB.out x (by rw [z2]; exact List.mem_append_left _ hx))
                  (fun x hx y hy => HX.out x (by rw [z1]; exact List.mem_append_left _ hx) y (by rw [z2]; exact List.mem_append_left _ hy)) sA1 sB1 (HK.out.below hb2)
              have HT := hidden (show T2 = false → Srt k (A1 ++ B1) from fun q => by
                have h1 := HT2.out
                rw [q] at h1
                have h2 := of_decide_eq_false h1
                rcases (show A1.length = 0 ∨ B1.length = 0 by omega) with r | r
                · rw [List.length_eq_zero_iff.1 r]; exact sB1
                · rw [List.length_eq_zero_iff.1 r, List.append_nil]; exact sA1)
              have HT' := hidden (show T2 = true → 0 < A1.length ∧ 0 < B1.length from fun q => by
                have h1 := HT2.out
                rw [q] at h1
                have h2 := of_decide_eq_true h1
                omega)
              have HS0 : Hid (SR c w2 G (P ++ (A1 ++ B1) ++ (A2 ++ (B2 ++ S)))) := by have := hs2.out; show SR _ _ _ _; simpa using this
              clear l1 l2 l3 l4 l5 l6 z1 z2 z3 z4 z5 z6 z7 z8 z9 sA1 sB1 hNt hlen2 hs2
              go_upto_if 199 with fail
              go_cut [] from 200 to 205 (fun wx => ∃ M1, Hid (SR c wx G (P ++ M1 ++ (A2 ++ (B2 ++ S)))) ∧ Hid (M1.Perm (A1 ++ B1)) ∧ Hid (Srt k M1) ∧ Below G w wx)
              case first =>
                cases T2 with
                | true =>
                  obtain ⟨q1, q2⟩ := HT'.out rfl
                  have hc := k1 q1 q2
                  go_wp2_with (go_at_call 168; refine hc.mono ?_; rintro e w3 ⟨rfl, M1, hs3, hpm3, hsm3, hb3⟩; have HS3 := hidden hs3; have HP3 := hidden hpm3; have HM3 := hidden hsm3; have bA := hb2.trans hb3; clear hs3 hb3 hpm3 hsm3)
                  go_meet
                  case rel => exact ⟨M1, HS3, HP3, HM3, bA⟩
                | false =>
                  have HS2 := hidden (HT.out rfl)
                  go_wp2_with fail
                  go_meet
                  case rel => exact ⟨A1 ++ B1, HS0, List.Perm.refl _, HS2, hb2⟩
              case rest =>
                obtain ⟨M1, hs3, hpm3, hsm3, hb3⟩ := hcut
                rename World => w3
                clear k1 HT HT' HS0 hb2
                go_upto_region 43 with fail
                go_cut [213] (fun tv wx => wx = w3 ∧ tv = .bool T3)
                case first =>
                  have hT := HT3.out
                  by_cases q1 : mid < en
                  · have r1 : (mid : Int) < (en : Int) := by omega
                    by_cases q2 : en < b
                    · have r2 : (en : Int) < (b : Int) := by omega
                      go_wp2_with fail
                      go_meet
                      case rel => exact ⟨rfl, by rw [← hT]; simp [q1, q2]⟩
                    · have r2 : ¬ (en : Int) < (b : Int) := by omega
                      go_wp2_with fail
                      go_meet
                      case rel => exact ⟨rfl, by rw [← hT]; simp [q1, q2]⟩
                  · have r1 : ¬ (mid : Int) < (en : Int) := by omega
                    go_wp2_with fail
                    go_meet
                    case rel => exact ⟨rfl, by rw [← hT]; simp [q1]⟩
                case rest =>
                  obtain ⟨hc9, rfl⟩ := hcut
                  obtain rfl := hc9.symm
                  have hl1' := hl1.out
                  obtain ⟨l1, l2, l3, l4, l5, l6⟩ := hl1'
                  obtain ⟨z1, z2, z3, z4, z5, z6, z7, z8, z9⟩ := HC.out
                  have sA2 : Srt k A2 := by have := HA.out; rw [z1] at this; exact (srt_app.1 this).2.1
                  have sB2 : Srt k B2 := by have := HB.out; rw [z2] at this; exact (srt_app.1 this).2.1
                  have hNt := HN.out
                  rw [z1, z2, List.length_append, List.length_append] at hNt
                  have hml := hpm3.out.length_eq
                  rw [List.length_append] at hml
                  have hlen2 : ((P ++ M1) ++ A2 ++ B2 ++ S).length = n := by
                    have := HNn.out
                    rw [z1, z2] at this
                    simp only [List.length_append] at this ⊢
                    omega
                  have k1 : 0 < A2.length → 0 < B2.length → Calls Try.prog 168 #[.slice (some ⟨G, 0, none⟩) n c, .int .i64 mid, .int .i64 en, .int .i64 b, (.func (.func 134) #[] #[V])] w3 fun e w' => e = .returned (.tuple #[]) ∧ ∃ M, SR c w' G ((P ++ M1) ++ M ++ S) ∧ M.Perm (A2 ++ B2) ∧ Srt k M ∧ Below G w3 w' := fun q1 q2 =>
                    HI.out (P ++ M1) A2 B2 S mid en b w3 (by have := HM.out; have := HBb.out; omega) (by have := hs3.out; simpa using this) hlen2 (by rw [List.length_append]; omega) (by omega) l5.symm q1 q2
                      (fun x hx => HDA.out x (by rw [z1]; exact List.mem_append_right _ hx)) (fun x hx => HDB.out x (by rw [z2]; exact List.mem_append_right _ hx))
                      (fun x hx y hy => HX.out x (by rw [z1]; exact List.mem_append_right _ hx) y (by rw [z2]; exact List.mem_append_right _ hy)) sA2 sB2 (HK.out.below hb3)
                  have HT := hidden (show T3 = false → Srt k (A2 ++ B2) from fun q => by
                    have h1 := HT3.out
                    rw [q] at h1
                    have h2 := of_decide_eq_false h1
                    rcases (show A2.length = 0 ∨ B2.length = 0 by omega) with r | r
                    · rw [List.length_eq_zero_iff.1 r]; exact sB2
                    · rw [List.length_eq_zero_iff.1 r, List.append_nil]; exact sA2)
                  have HT' := hidden (show T3 = true → 0 < A2.length ∧ 0 < B2.length from fun q => by
                    have h1 := HT3.out
                    rw [q] at h1
                    have h2 := of_decide_eq_true h1
                    omega)
                  have HS0 : Hid (SR c w3 G ((P ++ M1) ++ (A2 ++ B2) ++ S)) := by have := hs3.out; show SR _ _ _ _; simpa using this
                  have HJ : Hid (∀ M2, M2.Perm (A2 ++ B2) → Srt k M2 → Srt k (M1 ++ M2) ∧ (M1 ++ M2).Perm (A ++ B)) := fun M2 r1 r2 => by
                    have h1 := HA.out
                    have h2 := HB.out
                    rw [z1] at h1
                    rw [z2] at h2
                    rw [z1, z2]
                    exact join_srt z8 z9 h1 h2 hpm3.out r1 hsm3.out r2
                  clear l1 l2 l3 l4 l5 l6 z1 z2 z3 z4 z5 z6 z7 z8 z9 sA2 sB2 hNt hlen2 hs3 hml
                  cases T3 with
                  | true =>
                    obtain ⟨q1, q2⟩ := HT'.out rfl
                    have hc := k1 q1 q2
                    go_wp2_with (go_at_call 168; refine hc.mono ?_; rintro e w4 ⟨rfl, M2, hs4, hpm4, hsm4, hb4⟩; have HS4 := hidden hs4; have HP4 := hidden hpm4; have HM4 := hidden hsm4; have bA := hb3.trans hb4; clear hs4 hb4 hpm4 hsm4)
                    go_end0
                    obtain ⟨j1, j2⟩ := HJ.out M2 HP4.out HM4.out
                    exact ⟨rfl, M1 ++ M2, by have := HS4.out; simpa using this, j2, j1, bA⟩
                  | false =>
                    have HS2 := hidden (HT.out rfl)
                    go_wp2_with fail
                    go_end0
                    obtain ⟨j1, j2⟩ := HJ.out (A2 ++ B2) (List.Perm.refl _) HS2.out
                    exact ⟨rfl, M1 ++ (A2 ++ B2), by have := HS0.out; simpa using this, j2, j1, hb3⟩
end Go.Proofs.Ytgcpiinmcbdkmaa
