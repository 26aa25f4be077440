/-
  The walk of the law on what is derived.
-/
import Derived.Test.YtfhecdedanlmfaaF7
import Derived.Test.YtfhecdedanlmfaaF8
import Derived.Test.YtfhecdedanlmfaaR8
import Derived.Test.YtfhecdedanlmfaaR11
namespace Go.Proofs.Ytfhecdedanlmfaa
open Go.RowKit Va Rc
set_option linter.all false

theorem IRw.tail {w : World} {b off n cap : Nat} {a : Int} {l : List Int} (h : IRw w (.slice (some ⟨b, off, none⟩) n cap) (a :: l)) : IRw w (.slice (some ⟨b, off + 1, none⟩) l.length (cap - 1)) l := by
  obtain ⟨ao', cap', he, hc, h2⟩ := h
  obtain ⟨rfl, rfl, rfl⟩ : some ⟨b, off, none⟩ = ao' ∧ n = (a :: l).length ∧ cap = cap' := by simpa using he
  refine ⟨_, _, rfl, by simp at hc; omega, ?_⟩
  rcases h2 with h2 | ⟨b', off', h3, h4, h5⟩
  · simp at h2
  · simp at h3
    obtain ⟨rfl, rfl⟩ := h3
    exact Or.inr ⟨b, off + 1, rfl, h4, fun i x hx => by
      have := h5 (i + 1) x (by simpa using hx)
      rw [show off + 1 + i = off + (i + 1) by omega]
      exact this⟩
theorem IRw.some' {w : World} {ao : Option Addr} {n cap : Nat} {a : Int} {l : List Int} (h : IRw w (.slice ao n cap) (a :: l)) : ∃ b off, ao = some ⟨b, off, none⟩ := by
  obtain ⟨b, off, h1, _, _⟩ := h.at (i := 0) (x := a) rfl
  exact ⟨b, off, h1⟩
def noNot (x : Lw) : Bool := decide (x.nots.length = 0)

set_option maxRecDepth 20000 in
set_option maxHeartbeats 32000000 in
theorem fdv_walk (ao : Option Addr) (cap : Nat) (bs : List Int) (w : World) (hb : Bytes w w.heap.size ao bs) :
    Calls Try.prog 3 #[.slice ao bs.length cap] w fun e w' => e = .returned (.bool true) ∧ Below w.heap.size w w' := by
  have hB := big_any ao cap bs.length
  have HBY := hidden hb
  clear hb
  by_cases hbig : (4096 : Int) < (bs.length : Int)
  · rw [decide_eq_true hbig] at hB
    go_enter Try.func3, Try.ntmps3
    go_wp2_with fail
    refine (hB _).mono ?_
    rintro e w1 ⟨rfl, rfl⟩
    go_wp2_with fail
    go_ret
    exact ⟨rfl, Below.refl _ _⟩
  rw [decide_eq_false hbig] at hB
  go_enter Try.func3, Try.ntmps3
  go_wp2_with fail
  refine (hB _).mono ?_
  rintro e w0 ⟨rfl, e0⟩
  obtain rfl := e0
  go_wp2_with fail
  refine (dderive_any ao cap bs w0 HBY.out (by omega)).mono ?_
  rintro e w1 ⟨F, D, fa, fc, la, lc, rfl, hF, hD, hW, hI, hL, b1⟩
  have HW := hidden hW
  have I1 := hidden hI
  have L1 := hidden hL
  have hcl : (derive F D).length ≤ 64 := by
    unfold derive
    split
    · exact told_len F D 64
    · simp
  have HWH := hidden (fun x (hx : x ∈ derive F D) => why_holds hx)
  have HOKD := hidden (fun h => derive_ok (fs := F) (ls := D) h)
  have HIM := hidden (fun W h1 h2 => iderive_any fa F.length fc la D.length lc F D W h1 h2 (by omega) (by omega) HW.out)
  have HSP := hidden (fun W h1 h2 => sderive_any fa F.length fc la D.length lc F D W h1 h2 (by omega) (by omega) HW.out)
  have HWY := hidden (fun x W h1 h2 => iwhy_any fa F.length fc la D.length lc F D x W h1 h2 (by omega) (by omega) HW.out)
  have HRD : Hid (∃ R, R = derive F D) := ⟨_, rfl⟩
  obtain ⟨R, hR⟩ := HRD.out
  have HR := hidden hR
  rw [← hR] at hcl HWH HOKD HIM HSP
  clear hW hI hL HRD hR hB HBY
  go_wp2_with fail
  refine (HIM.out _ I1.out L1.out).mono ?_
  rintro e w2 ⟨a2, c2, rfl, ho2, hb2⟩
  have b2 := onto b1 hb2
  have I2 := hidden (I1.out.below hb2)
  have L2 := hidden (L1.out.below hb2)
  have O2 := hidden ho2
  clear b1 hb2 ho2 I1 L1
  go_wp2_with fail
  refine (HSP.out _ I2.out L2.out).mono ?_
  rintro e w3 ⟨a3, c3, rfl, ho3, hb3⟩
  have b3 := onto b2 hb3
  have I3 := hidden (I2.out.below hb3)
  have L3 := hidden (L2.out.below hb3)
  have R3 := hidden (ownI_irw (ownW_below O2.out hb3))
  have S3 := hidden (ownI_irw ho3)
  clear b2 hb3 ho3 I2 L2 O2
  go_wp2_with fail
  refine (same_any _ _ _ _ _ _ R _ R3.out S3.out (by omega)).mono ?_
  rintro e w4 ⟨rfl, hb4⟩
  have b4 := onto b3 hb4
  have I4 := hidden (fun W (hW : Below w4.heap.size w4 W) => (I3.out.below hb4).below hW)
  have L4 := hidden (fun W (hW : Below w4.heap.size w4 W) => (L3.out.below hb4).below hW)
  have R4 := hidden (fun W (hW : Below w4.heap.size w4 W) => (R3.out.below hb4).below hW)
  clear b3 hb4 I3 L3 R3 S3
  go_wp2_with fail
  go_loopw [6, 7] (fun pv iv wr => ∃ i : Nat, i ≤ D.length ∧ iv = .int .i64 i ∧ pv = .bool ((D.take i).all noNot) ∧ wr = w4) (fun _ iv _ => D.length - (intOf iv).toNat)
  case atStart => exact ⟨0, Nat.zero_le _, rfl, rfl, rfl⟩
  case round =>
    obtain ⟨i, hi, rfl, hpv, e4⟩ := hrel
    obtain rfl := e4
    generalize hpl : (D.take i).all noNot = pl at *
    subst hpv
    have HPL := hidden hpl
    clear hpl
    by_cases hlt : i < D.length
    · have hlti : (i : Int) < (D.length : Int) := by omega
      obtain ⟨x, hx⟩ := some_of D i hlt
      obtain ⟨g, off, ta, tc, ua, uc, rfl, hg, hr1, hr2, c0, c1, c2'⟩ := (L4.out _ (Below.refl _ _)).at hx
      have HT := hidden (take_snocQ hx)
      clear hx hr1 hr2
      cases pl with
      | false =>
        go_wp2_with fail
        go_roundw
        case rel => exact ⟨i + 1, by omega, rfl, by rw [HT.out, List.all_append, HPL.out]; rfl, (by first | rfl | trivial)⟩
        case measure => simp [intOf]; omega
      | true =>
        by_cases hz : (x.nots.length : Int) = 0
        · have hz2 : ((x.nots.length : Int) == 0) = true := by simpa using hz
          have HN : Hid (noNot x = true) := by show noNot x = true; unfold noNot; simp; simpa using hz
          clear hz
          go_wp2_with fail
          go_roundw
          case rel => exact ⟨i + 1, by omega, rfl, by rw [HT.out, List.all_append, HPL.out]; simp [HN.out], (by first | rfl | trivial)⟩
          case measure => simp [intOf]; omega
        · have hz2 : ((x.nots.length : Int) == 0) = false := by simpa using hz
          have HN : Hid (noNot x = false) := by show noNot x = false; unfold noNot; simp; intro q; rw [q] at hz; simp at hz
          clear hz
          go_wp2_with fail
          go_roundw
          case rel => exact ⟨i + 1, by omega, rfl, by rw [HT.out, List.all_append, HPL.out]; simp [HN.out], (by first | rfl | trivial)⟩
          case measure => simp [intOf]; omega
    · have hlti : ¬ (i : Int) < (D.length : Int) := by omega
      have HPA : Hid (D.all noNot = pl) := by have := HPL.out; rw [List.take_of_length_le (by omega)] at this; exact this
      clear HPL hlt hi
      obtain ⟨w4, hw4⟩ : ∃ w4, w4 = wr := ⟨_, rfl⟩
      subst hw4
      go_wp2_with fail
      go_loopw [8, 9, 10, 11] (fun iv _ _ _ wr => ∃ i : Nat, i ≤ R.length ∧ iv = .int .i64 i ∧ Below w4.heap.size w4 wr) (fun iv _ _ _ _ => R.length - (intOf iv).toNat)
      case atStart => exact ⟨0, Nat.zero_le _, rfl, Below.refl _ _⟩
      case round =>
        obtain ⟨i, hi, rfl, hb⟩ := hrel
        have bW := onto b4 hb
        by_cases hlt : i < R.length
        · have hlti : (i : Int) < (R.length : Int) := by omega
          obtain ⟨x, hx⟩ := some_of R i hlt
          have hRx := (R4.out _ hb).at hx
          obtain ⟨g, off, hge, hg, hc⟩ := hRx
          have c0 := hc i x hx
          subst hge
          obtain ⟨hy0, hy1, hym, hyl⟩ := HWH.out x (List.mem_of_getElem? hx)
          have hK := HWY.out x wr (I4.out _ hb) (L4.out _ hb)
          have HYM := hidden hym
          have HYL := hidden hyl
          generalize why F D x = y at *
          have hHF := fun W hW => lhas_any fa F.length fc F x W hW (by omega)
          clear hym hyl hx hc
          by_cases hyn : y = -1
          · subst hyn
            rw [HYM.out rfl] at hHF
            go_wp2_with (first | (go_at_call 10; refine hK.mono ?_; rintro e w5 ⟨rfl, hb5⟩; have bA := onto hb hb5; have c5 := ((bcell hb5).1 _ _ hg).trans c0; clear hb5) | (go_at_call 11; refine (hHF _ (I4.out _ bA)).mono ?_; rintro e w6 ⟨rfl, e6⟩; obtain rfl := e6))
            go_roundw
            case rel => exact ⟨i + 1, by omega, rfl, bA⟩
            case measure => simp [intOf]; omega
          · have hyge : 0 ≤ y := by omega
            obtain ⟨j, rfl⟩ := Int.eq_ofNat_of_zero_le hyge
            obtain ⟨v, hv, hvt, hvi, hvn⟩ := HYL.out j rfl
            have HVI := hidden hvi
            have HVN := hidden hvn
            have hjl : j < D.length := by omega
            have hnlen : ¬ (j : Int) ≥ (D.length : Int) := by omega
            have hjl2 : (j : Int) < (D.length : Int) := by omega
            have hvl := HW.out v (List.mem_of_getElem? hv)
            obtain ⟨g2, off2, ta, tc, ua, uc, hla, hg2, hr1, hr2, e0, e1, e2⟩ := (L4.out _ hb).at hv
            subst hla
            rw [hvt] at e2
            have HI1 := hidden hr1
            have HI2 := hidden hr2
            have HVT := hidden hvt
            have ny : ((j : Int) == -1) = false := by first | (simp; done) | (simp; omega)
            have ny2 : ¬ (j : Int) < -1 := by omega
            have nd1 : decide ((j : Int) < -1) = false := by first | (simp; done) | (simp; omega)
            have nd2 : decide (D.length ≤ j) = false := by first | (simp; done) | (simp; omega)
            clear hv hvi hvn hr1 hr2 hyn HYM HYL hHF hyge hvt
            go_wp2_with (go_at_call 10; refine hK.mono ?_; rintro e w5 ⟨rfl, hb5⟩; have bA := onto hb hb5; have c5 := ((bcell hb5).1 _ _ hg).trans c0; have d0 := ((bcell hb5).1 _ _ hg2).trans e0; have d1 := ((bcell hb5).1 _ _ hg2).trans e1; have d2 := ((bcell hb5).1 _ _ hg2).trans e2; have J1 := hidden (HI1.out.below hb5); have J2 := hidden (HI2.out.below hb5); have hg5 := Nat.lt_of_lt_of_le hg hb5.size; have hg25 := Nat.lt_of_lt_of_le hg2 hb5.size; clear hb5)
            clear c0 e0 e1 e2 HI1 HI2 hg hg2 hK
            go_quiet (fail)
            go_wp2_with fail
            go_loopw [10] (fun kv wr => ∃ k : Nat, k ≤ v.ifs.length ∧ kv = .int .i64 k ∧ Below w5.heap.size w5 wr) (fun kv _ => v.ifs.length - (intOf kv).toNat)
            case atStart => exact ⟨0, Nat.zero_le _, rfl, by repeat (first | exact Below.refl _ _ | assumption | refine st_drew ?_ | refine st_drewN ?_ _ | refine Below.setCell ?_ (by first | omega | (simp; done) | (simp; omega)) _ | refine Below.alloc ?_ (by first | omega | (simp; done) | (simp; omega)) _)⟩
            case round =>
              obtain ⟨k, hk, rfl, hbk⟩ := hrel
              have f0 := ((bcell hbk).1 _ _ hg25).trans d0
              have f1 := ((bcell hbk).1 _ _ hg25).trans d1
              by_cases hkl : k < v.ifs.length
              · have hkl2 : (k : Int) < (v.ifs.length : Int) := by omega
                obtain ⟨z, hz⟩ := some_of v.ifs k hkl
                obtain ⟨g3, off3, hg3e, hg3, hc3⟩ := (J1.out.below hbk).at hz
                have f3 := hc3 k z hz
                subst hg3e
                have hH := lhas_any (some ⟨g, off, none⟩) R.length c2 R z wr (R4.out _ (onto bA hbk)) (by omega)
                rw [HVI.out z (List.mem_of_getElem? hz)] at hH
                clear hz hc3
                go_wp2_with (go_at_call 11; refine hH.mono ?_; rintro e w6 ⟨rfl, e6⟩; obtain rfl := e6)
                go_roundw
                case rel => exact ⟨k + 1, by omega, rfl, hbk⟩
                case measure => simp [intOf]; omega
              · have hkl2 : ¬ (k : Int) < (v.ifs.length : Int) := by omega
                clear hkl hk
                have hb3 := hbk
                have bA2 := onto bA hbk
                have J3 := hidden (J2.out.below hbk)
                have hg25' := Nat.lt_of_lt_of_le hg25 hbk.size
                obtain ⟨w7, hw7⟩ : ∃ w7, w7 = wr := ⟨_, rfl⟩
                subst hw7
                clear hbk hb3
                go_wp2_with fail
                go_loopw [11] (fun kv wr => ∃ k : Nat, k ≤ v.nots.length ∧ kv = .int .i64 k ∧ Below w7.heap.size w7 wr) (fun kv _ => v.nots.length - (intOf kv).toNat)
                case atStart => exact ⟨0, Nat.zero_le _, rfl, by repeat (first | exact Below.refl _ _ | assumption | refine st_drew ?_ | refine st_drewN ?_ _ | refine Below.setCell ?_ (by first | omega | (simp; done) | (simp; omega)) _ | refine Below.alloc ?_ (by first | omega | (simp; done) | (simp; omega)) _)⟩
                case round =>
                  obtain ⟨k, hk, rfl, hbk⟩ := hrel
                  have h0 := ((bcell hbk).1 _ _ hg25').trans f0
                  have h1 := ((bcell hbk).1 _ _ hg25').trans f1
                  by_cases hkl : k < v.nots.length
                  · have hkl2 : (k : Int) < (v.nots.length : Int) := by omega
                    obtain ⟨z, hz⟩ := some_of v.nots k hkl
                    obtain ⟨g3, off3, hg3e, hg3, hc3⟩ := (J3.out.below hbk).at hz
                    have f3 := hc3 k z hz
                    subst hg3e
                    have hH := lhas_any (some ⟨g, off, none⟩) R.length c2 R z wr (R4.out _ (onto bA2 hbk)) (by omega)
                    rw [HVN.out z (List.mem_of_getElem? hz)] at hH
                    clear hz hc3
                    go_wp2_with (go_at_call 11; refine hH.mono ?_; rintro e w6 ⟨rfl, e6⟩; obtain rfl := e6)
                    go_roundw
                    case rel => exact ⟨k + 1, by omega, rfl, hbk⟩
                    case measure => simp [intOf]; omega
                  · have hkl2 : ¬ (k : Int) < (v.nots.length : Int) := by omega
                    clear hkl hk
                    go_wp2_with fail
                    go_roundw
                    case rel => exact ⟨i + 1, by omega, rfl, onto bA2 hbk⟩
                    case measure => simp [intOf]; omega
        · have hlti : ¬ (i : Int) < (R.length : Int) := by omega
          clear hlt hi
          cases hFe : F with
          | nil =>
            subst hFe
            go_wp2_with fail
            go_ret
            exact ⟨rfl, bW⟩
          | cons a F' =>
          cases pl with
          | false =>
            subst hFe
            have hne : (((F'.length : Nat) + 1 : Nat) : Int) ≠ 0 := by omega
            go_wp2_with fail
            go_ret
            exact ⟨rfl, bW⟩
          | true =>
            subst hFe
            have hf1 := (I4.out _ hb)
            obtain ⟨fb, fo, hfe⟩ := hf1.some'
            subst hfe
            have HT := hidden (hf1.tail)
            have hHD := iderive_any (some ⟨fb, fo + 1, none⟩) F'.length (fc - 1) la D.length lc F' D wr hf1.tail (L4.out _ hb) (by simp at hF; omega) (by omega) HW.out
            have hne : (((F'.length : Nat) + 1 : Nat) : Int) ≠ 0 := by omega
            have hfc := hf1.cap
            have HN0 : Hid (∀ x ∈ D, x.nots = []) := fun x hx => by
              have := List.all_eq_true.1 HPA.out x hx
              unfold noNot at this
              simpa using this
            have HR2 : Hid (∀ x ∈ derive F' D, 0 < R.length → hasB R x = true) := fun x hx hl => by rw [HR.out]; exact derive_fewer (HOKD.out hl) HN0.out hx
            have hl2 : (derive F' D).length ≤ 64 := by
              unfold derive
              split
              · exact told_len F' D 64
              · simp
            have HH0 : Hid (F' = [] → ∀ fb fo, Calls Try.prog 7 #[.slice (some ⟨fb, fo, none⟩) 0 0, .slice la D.length lc] wr fun e w' => ∃ ad c, e = .returned (.slice ad (derive F' D).length c) ∧ w'.ownsRow wr.heap.size 2 1 (.slice ad (derive F' D).length c) (derive F' D).length (intsV (derive F' D)) ∧ Below wr.heap.size wr w') := fun e fb fo => by
              subst e
              exact iderive_any (some ⟨fb, fo, none⟩) 0 0 la D.length lc [] D wr (IRw.nil _ _ _) (L4.out _ hb) (by simp) (by omega) HW.out
            generalize derive F' D = R2 at *
            clear hf1
            by_cases hf1c : fc = 1
            · subst hf1c
              have hF0 : F' = [] := by simpa using hfc
              subst hF0
              have hHD := HH0.out rfl fb fo
              go_wp2_with (go_at_call 7; refine hHD.mono ?_; rintro e w8 ⟨a8, c8, rfl, ho8, hb8⟩; have bB := onto hb hb8; have S8 := hidden (fun W (hW : Below w8.heap.size w8 W) => (ownI_irw ho8).below hW); clear hb8 ho8)
              go_loopw [13] (fun iv wr => ∃ i : Nat, i ≤ R2.length ∧ iv = .int .i64 i ∧ wr = w8) (fun iv _ => R2.length - (intOf iv).toNat)
              case atStart => exact ⟨0, Nat.zero_le _, rfl, rfl⟩
              case round =>
                obtain ⟨k, hk, rfl, e8⟩ := hrel
                obtain rfl := e8
                by_cases hkl : k < R2.length
                · have hkl2 : (k : Int) < (R2.length : Int) := by omega
                  by_cases hRl : 0 < R.length
                  · have hRl2 : (R.length : Int) > 0 := by omega
                    obtain ⟨z, hz⟩ := some_of R2 k hkl
                    obtain ⟨g3, off3, hg3e, hg3, hc3⟩ := (S8.out _ (Below.refl _ _)).at hz
                    have f3 := hc3 k z hz
                    subst hg3e
                    have hH := lhas_any a2 R.length c2 R z wr (R4.out _ bB) (by omega)
                    rw [HR2.out z (List.mem_of_getElem? hz) hRl] at hH
                    clear hz hc3
                    go_wp2_with (go_at_call 11; refine hH.mono ?_; rintro e w9 ⟨rfl, e9⟩; obtain rfl := e9)
                    go_roundw
                    case rel => exact ⟨k + 1, by omega, rfl, (by first | rfl | trivial)⟩
                    case measure => simp [intOf]; omega
                  · have hRl2 : ¬ (R.length : Int) > 0 := by omega
                    go_wp2_with fail
                    go_ret
                    exact ⟨rfl, onto b4 bB⟩
                · have hkl2 : ¬ (k : Int) < (R2.length : Int) := by omega
                  go_wp2_with fail
                  go_ret
                  exact ⟨rfl, onto b4 bB⟩
            · go_wp2_with (go_at_call 7; refine hHD.mono ?_; rintro e w8 ⟨a8, c8, rfl, ho8, hb8⟩; have bB := onto hb hb8; have S8 := hidden (fun W (hW : Below w8.heap.size w8 W) => (ownI_irw ho8).below hW); clear hb8 ho8)
              go_loopw [13] (fun iv wr => ∃ i : Nat, i ≤ R2.length ∧ iv = .int .i64 i ∧ wr = w8) (fun iv _ => R2.length - (intOf iv).toNat)
              case atStart => exact ⟨0, Nat.zero_le _, rfl, rfl⟩
              case round =>
                obtain ⟨k, hk, rfl, e8⟩ := hrel
                obtain rfl := e8
                by_cases hkl : k < R2.length
                · have hkl2 : (k : Int) < (R2.length : Int) := by omega
                  by_cases hRl : 0 < R.length
                  · have hRl2 : (R.length : Int) > 0 := by omega
                    obtain ⟨z, hz⟩ := some_of R2 k hkl
                    obtain ⟨g3, off3, hg3e, hg3, hc3⟩ := (S8.out _ (Below.refl _ _)).at hz
                    have f3 := hc3 k z hz
                    subst hg3e
                    have hH := lhas_any a2 R.length c2 R z wr (R4.out _ bB) (by omega)
                    rw [HR2.out z (List.mem_of_getElem? hz) hRl] at hH
                    clear hz hc3
                    go_wp2_with (go_at_call 11; refine hH.mono ?_; rintro e w9 ⟨rfl, e9⟩; obtain rfl := e9)
                    go_roundw
                    case rel => exact ⟨k + 1, by omega, rfl, (by first | rfl | trivial)⟩
                    case measure => simp [intOf]; omega
                  · have hRl2 : ¬ (R.length : Int) > 0 := by omega
                    go_wp2_with fail
                    go_ret
                    exact ⟨rfl, onto b4 bB⟩
                · have hkl2 : ¬ (k : Int) < (R2.length : Int) := by omega
                  go_wp2_with fail
                  go_ret
                  exact ⟨rfl, onto b4 bB⟩
end Go.Proofs.Ytfhecdedanlmfaa
