/-
  The earliest time, as the specification tells it.
-/
import Derived.Test.YtcapmobhgffnhaaOh
namespace Go.Proofs.Ytcapmobhgffnhaa
open Go.RowKit Va Oa
set_option linter.unusedVariables false

theorem cand_zero {l : List Opn} {x : Opn} {r : Int} {m : Nat} (h : m < 2) : candAt l x r m = some x.fr := by rw [candAt, if_pos h]
theorem cand_even {l : List Opn} {x y : Opn} {r : Int} {j : Nat} (h : l[j]? = some y) : candAt l x r (2 * (j + 1)) = some y.to := by
  rw [candAt, if_neg (by omega), show 2 * (j + 1) / 2 - 1 = j by omega, h, show 2 * (j + 1) % 2 = 0 by omega]
  simp
theorem cand_odd {l : List Opn} {x y : Opn} {r : Int} {j : Nat} (h : l[j]? = some y) : candAt l x r (2 * (j + 1) + 1) = some (y.to + r) := by
  rw [candAt, if_neg (by omega), show (2 * (j + 1) + 1) / 2 - 1 = j by omega, h, show (2 * (j + 1) + 1) % 2 = 1 by omega]
  simp

set_option maxRecDepth 20000 in
set_option maxHeartbeats 8000000 in
theorem searl_any (x : Opn) (ta : Option Addr) (tn tc : Nat) (ao : Option Addr) (n cap : Nat) (l : List Opn) (r : Int) (w : World) (h : ORw w (.slice ao n cap) l) (hn : l.length ≤ 1048576)
    (hR : IRw w (.slice ta tn tc) x.team) (hx : opB x = true) (hl : ∀ y ∈ l, opB y = true) (hr : 0 ≤ r ∧ r ≤ 1440) :
    Calls Try.prog 45 #[.slice ao n cap, aO x (.slice ta tn tc), .int .i64 r] w fun e w' => e = .returned (.int .i64 (earl l x r)) ∧ Below w.heap.size w w' := by
  obtain rfl := h.len
  have HH := hidden h
  have HT := hidden hR
  have HL := hidden hl
  have HX := hidden hx
  clear h hR hl hx
  obtain ⟨hx1, hx2, hx3, hx4, hx5⟩ := of_opB HX.out
  have hx6 : x.team.length ≤ 1048576 := by have := hx5.2.1; omega
  unfold aO
  go_enter Try.func45, Try.ntmps45
  go_wp2_with fail
  go_loopw [7, 9] (fun bv iv wr => ∃ (m : Nat) (b : Int), iv = .int .i64 ((m : Int) - 1) ∧ bv = .int .i64 b ∧ m ≤ l.length + 1 ∧ Hid (Best l x r (2 * m) b) ∧ -1 ≤ b ∧ b ≤ 10000000 ∧ OBox wr w.heap.size x (.slice ta tn tc) ∧ Below w.heap.size w wr ∧ w.heap.size < wr.heap.size) (fun _ iv _ => ((l.length : Int) - intOf iv).toNat)
  case atStart => exact ⟨0, -1, rfl, rfl, by omega, best_zero _ _ _, by omega, by omega, ⟨by simp, by simp, by simp, by simp, fun j => by simp⟩, by repeat (first | exact Below.refl _ _ | assumption | refine st_drew ?_ | refine st_drewN ?_ _ | refine Below.setCell ?_ (by first | omega | (simp; done) | (simp; omega)) _ | refine Below.alloc ?_ (by first | omega | (simp; done) | (simp; omega)) _), by simp⟩
  case round =>
    obtain ⟨m, b, rfl, rfl, hm, hB, hb1, hb2, hO, hb, hz⟩ := hrel
    have hsz := hb.size
    by_cases hml : m = l.length + 1
    · have hend : ¬ (m : Int) - 1 < (l.length : Int) := by omega
      have HE : Hid (earl l x r = b) := by
        have hB' := hB.out
        rw [hml] at hB'
        exact (best_end (by omega) hB').eq.symm
      obtain ⟨b0, b1, b2, b3, bf⟩ := hO
      clear hml
      go_wp2_with fail
      go_ret
      exact ⟨by rw [HE.out]; rfl, hb⟩
    have hlt : (m : Int) - 1 < (l.length : Int) := by omega
    rcases Nat.eq_zero_or_pos m with hm0 | hm0
    · subst hm0
      have e0 : (((0 : Nat) : Int) - 1) = -1 := by omega
      rw [e0]
      have hlt1 : (-1 : Int) < (l.length : Int) := by omega
      have HY : Hid True := trivial
      have HC0 : Hid (candAt l x r (2 * 0) = some x.fr) := cand_zero (by omega)
      have HC1 : Hid (candAt l x r (2 * 0 + 1) = some x.fr) := cand_zero (by omega)
      have hc1 : 0 ≤ x.fr ∧ x.fr ≤ 10001440 := by omega
      go_wp2_with fail
      go_loopw [7, 10, 11] (fun bv kv _ wx => ∃ b : Int, bv = .int .i64 b ∧ -1 ≤ b ∧ b ≤ 10000000 ∧ OBox wx w.heap.size x (.slice ta tn tc) ∧ Below w.heap.size w wx ∧ w.heap.size < wx.heap.size ∧ Hid ((kv = .int .i64 0 ∧ Best l x r (2 * 0) b) ∨ (kv = .int .i64 1 ∧ Best l x r (2 * 0 + 1) b) ∨ (kv = .int .i64 2 ∧ Best l x r (2 * 0 + 2) b))) (fun _ kv _ _ => 2 - (intOf kv).toNat)
      case atStart => exact ⟨b, rfl, hb1, hb2, hO, hb, hz, Or.inl ⟨rfl, hB.out⟩⟩
      case round =>
        clear hO hb hz hB hb1 hb2 hsz
        obtain ⟨b, rfl, hb1, hb2, hO, hb, hz, hk⟩ := hrel
        have hsz := hb.size
        have HO := hidden hO
        obtain ⟨b0, b1, b2, b3, bf⟩ := hO
        rcases hk.out with ⟨rfl, hB⟩ | ⟨rfl, hB⟩ | ⟨rfl, hB⟩
        · have hB2 := hidden hB
          have hcb : 0 ≤ x.fr ∧ x.fr ≤ 10001440 := by omega
          by_cases sb : 0 ≤ b ∧ b ≤ x.fr
          · obtain ⟨sb1, sb2⟩ := sb
            have HN := hidden (best_skip hB HC0.out (Or.inr (Or.inl ⟨sb1, sb2⟩)))
            clear hB hk
            go_wp2_with fail
            go_roundw
            case rel => exact ⟨b, rfl, by omega, by omega, HO.out, hb, hz, Or.inr (Or.inl ⟨rfl, HN.out⟩)⟩
            case measure => simp [intOf]
          have h10 : ¬ 10000000 < x.to := by omega
          have h11 : ¬ 10000000 < x.fr + (x.to - x.fr) := by omega
          have hK := fun W hW1 hW2 => sfits_any (mv x (x.fr)) ta tn tc ao l.length cap l r W hW1 hn hW2 (tms_mv HX.out (by omega) (by omega)) hx6 HL.out hr
          have HRo := hidden (fun W (hW : Below w.heap.size w W) => HH.out.below hW)
          have HRt := hidden (fun W (hW : Below w.heap.size w W) => HT.out.below hW)
          unfold aO at hK
          have HF := hidden (@fit_iff l x r (x.fr))
          generalize fitB l (mv x (x.fr)) r = fb at *
          simp only [mv] at hK
          cases fb with
          | false =>
            have HN := hidden (best_skip hB HC0.out (Or.inr (Or.inr (Or.inr (fun z => by have := HF.out.2 z; cases this)))))
            clear hB hk
            by_cases sb1 : 0 ≤ b
            · have sb2 : ¬ b ≤ x.fr := fun z => sb ⟨sb1, z⟩
              go_wp2_with (go_at_call 72; with_reducible refine (hK _ (HRo.out _ (by repeat (first | exact Below.refl _ _ | assumption | refine st_drew ?_ | refine st_drewN ?_ _ | refine Below.setCell ?_ (by first | omega | (simp; done) | (simp; omega)) _ | refine Below.alloc ?_ (by first | omega | (simp; done) | (simp; omega)) _))) (HRt.out _ (by repeat (first | exact Below.refl _ _ | assumption | refine st_drew ?_ | refine st_drewN ?_ _ | refine Below.setCell ?_ (by first | omega | (simp; done) | (simp; omega)) _ | refine Below.alloc ?_ (by first | omega | (simp; done) | (simp; omega)) _)))).mono ?_; rintro e w1 ⟨rfl, hq1⟩)
              go_roundw
              case rel => exact ⟨b, rfl, by omega, by omega, HO.out.below hq1 hz, onto hb hq1, Nat.lt_of_lt_of_le hz hq1.size, Or.inr (Or.inl ⟨rfl, HN.out⟩)⟩
              case measure => simp [intOf]
            · go_wp2_with (go_at_call 72; with_reducible refine (hK _ (HRo.out _ (by repeat (first | exact Below.refl _ _ | assumption | refine st_drew ?_ | refine st_drewN ?_ _ | refine Below.setCell ?_ (by first | omega | (simp; done) | (simp; omega)) _ | refine Below.alloc ?_ (by first | omega | (simp; done) | (simp; omega)) _))) (HRt.out _ (by repeat (first | exact Below.refl _ _ | assumption | refine st_drew ?_ | refine st_drewN ?_ _ | refine Below.setCell ?_ (by first | omega | (simp; done) | (simp; omega)) _ | refine Below.alloc ?_ (by first | omega | (simp; done) | (simp; omega)) _)))).mono ?_; rintro e w1 ⟨rfl, hq1⟩)
              go_roundw
              case rel => exact ⟨b, rfl, by omega, by omega, HO.out.below hq1 hz, onto hb hq1, Nat.lt_of_lt_of_le hz hq1.size, Or.inr (Or.inl ⟨rfl, HN.out⟩)⟩
              case measure => simp [intOf]
          | true =>
            have HN := hidden (best_take hB (by omega) HC0.out ⟨by omega, by omega, HF.out.1 rfl⟩ sb)
            clear hB hk
            by_cases sb1 : 0 ≤ b
            · have sb2 : ¬ b ≤ x.fr := fun z => sb ⟨sb1, z⟩
              go_wp2_with (go_at_call 72; with_reducible refine (hK _ (HRo.out _ (by repeat (first | exact Below.refl _ _ | assumption | refine st_drew ?_ | refine st_drewN ?_ _ | refine Below.setCell ?_ (by first | omega | (simp; done) | (simp; omega)) _ | refine Below.alloc ?_ (by first | omega | (simp; done) | (simp; omega)) _))) (HRt.out _ (by repeat (first | exact Below.refl _ _ | assumption | refine st_drew ?_ | refine st_drewN ?_ _ | refine Below.setCell ?_ (by first | omega | (simp; done) | (simp; omega)) _ | refine Below.alloc ?_ (by first | omega | (simp; done) | (simp; omega)) _)))).mono ?_; rintro e w1 ⟨rfl, hq1⟩)
              go_roundw
              case rel => exact ⟨x.fr, rfl, by omega, by omega, HO.out.below hq1 hz, onto hb hq1, Nat.lt_of_lt_of_le hz hq1.size, Or.inr (Or.inl ⟨rfl, HN.out⟩)⟩
              case measure => simp [intOf]
            · go_wp2_with (go_at_call 72; with_reducible refine (hK _ (HRo.out _ (by repeat (first | exact Below.refl _ _ | assumption | refine st_drew ?_ | refine st_drewN ?_ _ | refine Below.setCell ?_ (by first | omega | (simp; done) | (simp; omega)) _ | refine Below.alloc ?_ (by first | omega | (simp; done) | (simp; omega)) _))) (HRt.out _ (by repeat (first | exact Below.refl _ _ | assumption | refine st_drew ?_ | refine st_drewN ?_ _ | refine Below.setCell ?_ (by first | omega | (simp; done) | (simp; omega)) _ | refine Below.alloc ?_ (by first | omega | (simp; done) | (simp; omega)) _)))).mono ?_; rintro e w1 ⟨rfl, hq1⟩)
              go_roundw
              case rel => exact ⟨x.fr, rfl, by omega, by omega, HO.out.below hq1 hz, onto hb hq1, Nat.lt_of_lt_of_le hz hq1.size, Or.inr (Or.inl ⟨rfl, HN.out⟩)⟩
              case measure => simp [intOf]
        · have hB2 := hidden hB
          have hcb : 0 ≤ x.fr ∧ x.fr ≤ 10001440 := by omega
          by_cases sb : 0 ≤ b ∧ b ≤ x.fr
          · obtain ⟨sb1, sb2⟩ := sb
            have HN := hidden (best_skip hB HC1.out (Or.inr (Or.inl ⟨sb1, sb2⟩)))
            clear hB hk
            go_wp2_with fail
            go_roundw
            case rel => exact ⟨b, rfl, by omega, by omega, HO.out, hb, hz, Or.inr (Or.inr ⟨rfl, HN.out⟩)⟩
            case measure => simp [intOf]
          have h10 : ¬ 10000000 < x.to := by omega
          have h11 : ¬ 10000000 < x.fr + (x.to - x.fr) := by omega
          have hK := fun W hW1 hW2 => sfits_any (mv x (x.fr)) ta tn tc ao l.length cap l r W hW1 hn hW2 (tms_mv HX.out (by omega) (by omega)) hx6 HL.out hr
          have HRo := hidden (fun W (hW : Below w.heap.size w W) => HH.out.below hW)
          have HRt := hidden (fun W (hW : Below w.heap.size w W) => HT.out.below hW)
          unfold aO at hK
          have HF := hidden (@fit_iff l x r (x.fr))
          generalize fitB l (mv x (x.fr)) r = fb at *
          simp only [mv] at hK
          cases fb with
          | false =>
            have HN := hidden (best_skip hB HC1.out (Or.inr (Or.inr (Or.inr (fun z => by have := HF.out.2 z; cases this)))))
            clear hB hk
            by_cases sb1 : 0 ≤ b
            · have sb2 : ¬ b ≤ x.fr := fun z => sb ⟨sb1, z⟩
              go_wp2_with (go_at_call 72; with_reducible refine (hK _ (HRo.out _ (by repeat (first | exact Below.refl _ _ | assumption | refine st_drew ?_ | refine st_drewN ?_ _ | refine Below.setCell ?_ (by first | omega | (simp; done) | (simp; omega)) _ | refine Below.alloc ?_ (by first | omega | (simp; done) | (simp; omega)) _))) (HRt.out _ (by repeat (first | exact Below.refl _ _ | assumption | refine st_drew ?_ | refine st_drewN ?_ _ | refine Below.setCell ?_ (by first | omega | (simp; done) | (simp; omega)) _ | refine Below.alloc ?_ (by first | omega | (simp; done) | (simp; omega)) _)))).mono ?_; rintro e w1 ⟨rfl, hq1⟩)
              go_roundw
              case rel => exact ⟨b, rfl, by omega, by omega, HO.out.below hq1 hz, onto hb hq1, Nat.lt_of_lt_of_le hz hq1.size, Or.inr (Or.inr ⟨rfl, HN.out⟩)⟩
              case measure => simp [intOf]
            · go_wp2_with (go_at_call 72; with_reducible refine (hK _ (HRo.out _ (by repeat (first | exact Below.refl _ _ | assumption | refine st_drew ?_ | refine st_drewN ?_ _ | refine Below.setCell ?_ (by first | omega | (simp; done) | (simp; omega)) _ | refine Below.alloc ?_ (by first | omega | (simp; done) | (simp; omega)) _))) (HRt.out _ (by repeat (first | exact Below.refl _ _ | assumption | refine st_drew ?_ | refine st_drewN ?_ _ | refine Below.setCell ?_ (by first | omega | (simp; done) | (simp; omega)) _ | refine Below.alloc ?_ (by first | omega | (simp; done) | (simp; omega)) _)))).mono ?_; rintro e w1 ⟨rfl, hq1⟩)
              go_roundw
              case rel => exact ⟨b, rfl, by omega, by omega, HO.out.below hq1 hz, onto hb hq1, Nat.lt_of_lt_of_le hz hq1.size, Or.inr (Or.inr ⟨rfl, HN.out⟩)⟩
              case measure => simp [intOf]
          | true =>
            have HN := hidden (best_take hB (by omega) HC1.out ⟨by omega, by omega, HF.out.1 rfl⟩ sb)
            clear hB hk
            by_cases sb1 : 0 ≤ b
            · have sb2 : ¬ b ≤ x.fr := fun z => sb ⟨sb1, z⟩
              go_wp2_with (go_at_call 72; with_reducible refine (hK _ (HRo.out _ (by repeat (first | exact Below.refl _ _ | assumption | refine st_drew ?_ | refine st_drewN ?_ _ | refine Below.setCell ?_ (by first | omega | (simp; done) | (simp; omega)) _ | refine Below.alloc ?_ (by first | omega | (simp; done) | (simp; omega)) _))) (HRt.out _ (by repeat (first | exact Below.refl _ _ | assumption | refine st_drew ?_ | refine st_drewN ?_ _ | refine Below.setCell ?_ (by first | omega | (simp; done) | (simp; omega)) _ | refine Below.alloc ?_ (by first | omega | (simp; done) | (simp; omega)) _)))).mono ?_; rintro e w1 ⟨rfl, hq1⟩)
              go_roundw
              case rel => exact ⟨x.fr, rfl, by omega, by omega, HO.out.below hq1 hz, onto hb hq1, Nat.lt_of_lt_of_le hz hq1.size, Or.inr (Or.inr ⟨rfl, HN.out⟩)⟩
              case measure => simp [intOf]
            · go_wp2_with (go_at_call 72; with_reducible refine (hK _ (HRo.out _ (by repeat (first | exact Below.refl _ _ | assumption | refine st_drew ?_ | refine st_drewN ?_ _ | refine Below.setCell ?_ (by first | omega | (simp; done) | (simp; omega)) _ | refine Below.alloc ?_ (by first | omega | (simp; done) | (simp; omega)) _))) (HRt.out _ (by repeat (first | exact Below.refl _ _ | assumption | refine st_drew ?_ | refine st_drewN ?_ _ | refine Below.setCell ?_ (by first | omega | (simp; done) | (simp; omega)) _ | refine Below.alloc ?_ (by first | omega | (simp; done) | (simp; omega)) _)))).mono ?_; rintro e w1 ⟨rfl, hq1⟩)
              go_roundw
              case rel => exact ⟨x.fr, rfl, by omega, by omega, HO.out.below hq1 hz, onto hb hq1, Nat.lt_of_lt_of_le hz hq1.size, Or.inr (Or.inr ⟨rfl, HN.out⟩)⟩
              case measure => simp [intOf]
        · have HN := hidden hB
          clear hB hk
          go_wp2_with fail
          go_roundw
          case rel => exact ⟨0 + 1, b, by first | rfl | (congr 1; omega), rfl, by omega, HN.out, by omega, by omega, HO.out, hb, hz⟩
          case measure => first | (simp [intOf]; done) | (simp [intOf]; omega)
    · obtain ⟨j, rfl⟩ : ∃ j, m = j + 1 := ⟨m - 1, by omega⟩
      have e0 : (((j + 1 : Nat) : Int) - 1) = (j : Int) := by omega
      rw [e0] at *
      obtain ⟨y, hy⟩ := some_of l j (by omega)
      have HY := hidden hy
      have hyo := HL.out y (List.mem_of_getElem? hy)
      obtain ⟨-, hy1, hy2, hy3, hy4⟩ := of_opB hyo
      have HC0 : Hid (candAt l x r (2 * (j + 1)) = some y.to) := cand_even hy
      have HC1 : Hid (candAt l x r (2 * (j + 1) + 1) = some (y.to + r)) := cand_odd hy
      have hjn : ¬ (j : Int) < 0 := by omega
      clear hy
      go_wp2_with fail
      go_loopw [7, 10, 11] (fun bv kv _ wx => ∃ b : Int, bv = .int .i64 b ∧ -1 ≤ b ∧ b ≤ 10000000 ∧ OBox wx w.heap.size x (.slice ta tn tc) ∧ Below w.heap.size w wx ∧ w.heap.size < wx.heap.size ∧ Hid ((kv = .int .i64 0 ∧ Best l x r (2 * (j + 1)) b) ∨ (kv = .int .i64 1 ∧ Best l x r (2 * (j + 1) + 1) b) ∨ (kv = .int .i64 2 ∧ Best l x r (2 * (j + 1) + 2) b))) (fun _ kv _ _ => 2 - (intOf kv).toNat)
      case atStart => exact ⟨b, rfl, hb1, hb2, hO, hb, hz, Or.inl ⟨rfl, hB.out⟩⟩
      case round =>
        clear hO hb hz hB hb1 hb2 hsz
        obtain ⟨b, rfl, hb1, hb2, hO, hb, hz, hk⟩ := hrel
        have hsz := hb.size
        have HO := hidden hO
        obtain ⟨b0, b1, b2, b3, bf⟩ := hO
        obtain ⟨g, off, tb, td, rfl, hgl, hrow, c0, c1, c2, c3⟩ := (HH.out.below hb).at HY.out
        rcases hk.out with ⟨rfl, hB⟩ | ⟨rfl, hB⟩ | ⟨rfl, hB⟩
        · have hB2 := hidden hB
          have hcb : 0 ≤ y.to ∧ y.to ≤ 10001440 := by omega
          by_cases s1 : y.to < x.fr
          ·
            have HN := hidden (best_skip hB HC0.out (Or.inl s1))
            clear hB hk
            go_wp2_with fail
            go_roundw
            case rel => exact ⟨b, rfl, by omega, by omega, HO.out, hb, hz, Or.inr (Or.inl ⟨rfl, HN.out⟩)⟩
            case measure => simp [intOf]
          by_cases sb : 0 ≤ b ∧ b ≤ y.to
          · obtain ⟨sb1, sb2⟩ := sb
            have HN := hidden (best_skip hB HC0.out (Or.inr (Or.inl ⟨sb1, sb2⟩)))
            clear hB hk
            go_wp2_with fail
            go_roundw
            case rel => exact ⟨b, rfl, by omega, by omega, HO.out, hb, hz, Or.inr (Or.inl ⟨rfl, HN.out⟩)⟩
            case measure => simp [intOf]
          by_cases s3 : 10000000 < y.to + (x.to - x.fr)
          · by_cases sb1 : 0 ≤ b
            · have sb2 : ¬ b ≤ y.to := fun z => sb ⟨sb1, z⟩
              have HN := hidden (best_skip hB HC0.out (Or.inr (Or.inr (Or.inl s3))))
              clear hB hk
              go_wp2_with fail
              go_roundw
              case rel => exact ⟨b, rfl, by omega, by omega, HO.out, hb, hz, Or.inr (Or.inl ⟨rfl, HN.out⟩)⟩
              case measure => simp [intOf]
            ·
              have HN := hidden (best_skip hB HC0.out (Or.inr (Or.inr (Or.inl s3))))
              clear hB hk
              go_wp2_with fail
              go_roundw
              case rel => exact ⟨b, rfl, by omega, by omega, HO.out, hb, hz, Or.inr (Or.inl ⟨rfl, HN.out⟩)⟩
              case measure => simp [intOf]
          have hK := fun W hW1 hW2 => sfits_any (mv x (y.to)) ta tn tc (some ⟨g, off, none⟩) l.length cap l r W hW1 hn hW2 (tms_mv HX.out (by omega) (by omega)) hx6 HL.out hr
          have HRo := hidden (fun W (hW : Below w.heap.size w W) => HH.out.below hW)
          have HRt := hidden (fun W (hW : Below w.heap.size w W) => HT.out.below hW)
          unfold aO at hK
          have HF := hidden (@fit_iff l x r (y.to))
          generalize fitB l (mv x (y.to)) r = fb at *
          simp only [mv] at hK
          cases fb with
          | false =>
            have HN := hidden (best_skip hB HC0.out (Or.inr (Or.inr (Or.inr (fun z => by have := HF.out.2 z; cases this)))))
            clear hB hk
            by_cases sb1 : 0 ≤ b
            · have sb2 : ¬ b ≤ y.to := fun z => sb ⟨sb1, z⟩
              go_wp2_with (go_at_call 72; with_reducible refine (hK _ (HRo.out _ (by repeat (first | exact Below.refl _ _ | assumption | refine st_drew ?_ | refine st_drewN ?_ _ | refine Below.setCell ?_ (by first | omega | (simp; done) | (simp; omega)) _ | refine Below.alloc ?_ (by first | omega | (simp; done) | (simp; omega)) _))) (HRt.out _ (by repeat (first | exact Below.refl _ _ | assumption | refine st_drew ?_ | refine st_drewN ?_ _ | refine Below.setCell ?_ (by first | omega | (simp; done) | (simp; omega)) _ | refine Below.alloc ?_ (by first | omega | (simp; done) | (simp; omega)) _)))).mono ?_; rintro e w1 ⟨rfl, hq1⟩)
              go_roundw
              case rel => exact ⟨b, rfl, by omega, by omega, HO.out.below hq1 hz, onto hb hq1, Nat.lt_of_lt_of_le hz hq1.size, Or.inr (Or.inl ⟨rfl, HN.out⟩)⟩
              case measure => simp [intOf]
            · go_wp2_with (go_at_call 72; with_reducible refine (hK _ (HRo.out _ (by repeat (first | exact Below.refl _ _ | assumption | refine st_drew ?_ | refine st_drewN ?_ _ | refine Below.setCell ?_ (by first | omega | (simp; done) | (simp; omega)) _ | refine Below.alloc ?_ (by first | omega | (simp; done) | (simp; omega)) _))) (HRt.out _ (by repeat (first | exact Below.refl _ _ | assumption | refine st_drew ?_ | refine st_drewN ?_ _ | refine Below.setCell ?_ (by first | omega | (simp; done) | (simp; omega)) _ | refine Below.alloc ?_ (by first | omega | (simp; done) | (simp; omega)) _)))).mono ?_; rintro e w1 ⟨rfl, hq1⟩)
              go_roundw
              case rel => exact ⟨b, rfl, by omega, by omega, HO.out.below hq1 hz, onto hb hq1, Nat.lt_of_lt_of_le hz hq1.size, Or.inr (Or.inl ⟨rfl, HN.out⟩)⟩
              case measure => simp [intOf]
          | true =>
            have HN := hidden (best_take hB (by omega) HC0.out ⟨by omega, by omega, HF.out.1 rfl⟩ sb)
            clear hB hk
            by_cases sb1 : 0 ≤ b
            · have sb2 : ¬ b ≤ y.to := fun z => sb ⟨sb1, z⟩
              go_wp2_with (go_at_call 72; with_reducible refine (hK _ (HRo.out _ (by repeat (first | exact Below.refl _ _ | assumption | refine st_drew ?_ | refine st_drewN ?_ _ | refine Below.setCell ?_ (by first | omega | (simp; done) | (simp; omega)) _ | refine Below.alloc ?_ (by first | omega | (simp; done) | (simp; omega)) _))) (HRt.out _ (by repeat (first | exact Below.refl _ _ | assumption | refine st_drew ?_ | refine st_drewN ?_ _ | refine Below.setCell ?_ (by first | omega | (simp; done) | (simp; omega)) _ | refine Below.alloc ?_ (by first | omega | (simp; done) | (simp; omega)) _)))).mono ?_; rintro e w1 ⟨rfl, hq1⟩)
              go_roundw
              case rel => exact ⟨y.to, rfl, by omega, by omega, HO.out.below hq1 hz, onto hb hq1, Nat.lt_of_lt_of_le hz hq1.size, Or.inr (Or.inl ⟨rfl, HN.out⟩)⟩
              case measure => simp [intOf]
            · go_wp2_with (go_at_call 72; with_reducible refine (hK _ (HRo.out _ (by repeat (first | exact Below.refl _ _ | assumption | refine st_drew ?_ | refine st_drewN ?_ _ | refine Below.setCell ?_ (by first | omega | (simp; done) | (simp; omega)) _ | refine Below.alloc ?_ (by first | omega | (simp; done) | (simp; omega)) _))) (HRt.out _ (by repeat (first | exact Below.refl _ _ | assumption | refine st_drew ?_ | refine st_drewN ?_ _ | refine Below.setCell ?_ (by first | omega | (simp; done) | (simp; omega)) _ | refine Below.alloc ?_ (by first | omega | (simp; done) | (simp; omega)) _)))).mono ?_; rintro e w1 ⟨rfl, hq1⟩)
              go_roundw
              case rel => exact ⟨y.to, rfl, by omega, by omega, HO.out.below hq1 hz, onto hb hq1, Nat.lt_of_lt_of_le hz hq1.size, Or.inr (Or.inl ⟨rfl, HN.out⟩)⟩
              case measure => simp [intOf]
        · have hB2 := hidden hB
          have hcb : 0 ≤ y.to + r ∧ y.to + r ≤ 10001440 := by omega
          by_cases s1 : y.to + r < x.fr
          ·
            have HN := hidden (best_skip hB HC1.out (Or.inl s1))
            clear hB hk
            go_wp2_with fail
            go_roundw
            case rel => exact ⟨b, rfl, by omega, by omega, HO.out, hb, hz, Or.inr (Or.inr ⟨rfl, HN.out⟩)⟩
            case measure => simp [intOf]
          by_cases sb : 0 ≤ b ∧ b ≤ y.to + r
          · obtain ⟨sb1, sb2⟩ := sb
            have HN := hidden (best_skip hB HC1.out (Or.inr (Or.inl ⟨sb1, sb2⟩)))
            clear hB hk
            go_wp2_with fail
            go_roundw
            case rel => exact ⟨b, rfl, by omega, by omega, HO.out, hb, hz, Or.inr (Or.inr ⟨rfl, HN.out⟩)⟩
            case measure => simp [intOf]
          by_cases s3 : 10000000 < y.to + r + (x.to - x.fr)
          · by_cases sb1 : 0 ≤ b
            · have sb2 : ¬ b ≤ y.to + r := fun z => sb ⟨sb1, z⟩
              have HN := hidden (best_skip hB HC1.out (Or.inr (Or.inr (Or.inl s3))))
              clear hB hk
              go_wp2_with fail
              go_roundw
              case rel => exact ⟨b, rfl, by omega, by omega, HO.out, hb, hz, Or.inr (Or.inr ⟨rfl, HN.out⟩)⟩
              case measure => simp [intOf]
            ·
              have HN := hidden (best_skip hB HC1.out (Or.inr (Or.inr (Or.inl s3))))
              clear hB hk
              go_wp2_with fail
              go_roundw
              case rel => exact ⟨b, rfl, by omega, by omega, HO.out, hb, hz, Or.inr (Or.inr ⟨rfl, HN.out⟩)⟩
              case measure => simp [intOf]
          have hK := fun W hW1 hW2 => sfits_any (mv x (y.to + r)) ta tn tc (some ⟨g, off, none⟩) l.length cap l r W hW1 hn hW2 (tms_mv HX.out (by omega) (by omega)) hx6 HL.out hr
          have HRo := hidden (fun W (hW : Below w.heap.size w W) => HH.out.below hW)
          have HRt := hidden (fun W (hW : Below w.heap.size w W) => HT.out.below hW)
          unfold aO at hK
          have HF := hidden (@fit_iff l x r (y.to + r))
          generalize fitB l (mv x (y.to + r)) r = fb at *
          simp only [mv] at hK
          cases fb with
          | false =>
            have HN := hidden (best_skip hB HC1.out (Or.inr (Or.inr (Or.inr (fun z => by have := HF.out.2 z; cases this)))))
            clear hB hk
            by_cases sb1 : 0 ≤ b
            · have sb2 : ¬ b ≤ y.to + r := fun z => sb ⟨sb1, z⟩
              go_wp2_with (go_at_call 72; with_reducible refine (hK _ (HRo.out _ (by repeat (first | exact Below.refl _ _ | assumption | refine st_drew ?_ | refine st_drewN ?_ _ | refine Below.setCell ?_ (by first | omega | (simp; done) | (simp; omega)) _ | refine Below.alloc ?_ (by first | omega | (simp; done) | (simp; omega)) _))) (HRt.out _ (by repeat (first | exact Below.refl _ _ | assumption | refine st_drew ?_ | refine st_drewN ?_ _ | refine Below.setCell ?_ (by first | omega | (simp; done) | (simp; omega)) _ | refine Below.alloc ?_ (by first | omega | (simp; done) | (simp; omega)) _)))).mono ?_; rintro e w1 ⟨rfl, hq1⟩)
              go_roundw
              case rel => exact ⟨b, rfl, by omega, by omega, HO.out.below hq1 hz, onto hb hq1, Nat.lt_of_lt_of_le hz hq1.size, Or.inr (Or.inr ⟨rfl, HN.out⟩)⟩
              case measure => simp [intOf]
            · go_wp2_with (go_at_call 72; with_reducible refine (hK _ (HRo.out _ (by repeat (first | exact Below.refl _ _ | assumption | refine st_drew ?_ | refine st_drewN ?_ _ | refine Below.setCell ?_ (by first | omega | (simp; done) | (simp; omega)) _ | refine Below.alloc ?_ (by first | omega | (simp; done) | (simp; omega)) _))) (HRt.out _ (by repeat (first | exact Below.refl _ _ | assumption | refine st_drew ?_ | refine st_drewN ?_ _ | refine Below.setCell ?_ (by first | omega | (simp; done) | (simp; omega)) _ | refine Below.alloc ?_ (by first | omega | (simp; done) | (simp; omega)) _)))).mono ?_; rintro e w1 ⟨rfl, hq1⟩)
              go_roundw
              case rel => exact ⟨b, rfl, by omega, by omega, HO.out.below hq1 hz, onto hb hq1, Nat.lt_of_lt_of_le hz hq1.size, Or.inr (Or.inr ⟨rfl, HN.out⟩)⟩
              case measure => simp [intOf]
          | true =>
            have HN := hidden (best_take hB (by omega) HC1.out ⟨by omega, by omega, HF.out.1 rfl⟩ sb)
            clear hB hk
            by_cases sb1 : 0 ≤ b
            · have sb2 : ¬ b ≤ y.to + r := fun z => sb ⟨sb1, z⟩
              go_wp2_with (go_at_call 72; with_reducible refine (hK _ (HRo.out _ (by repeat (first | exact Below.refl _ _ | assumption | refine st_drew ?_ | refine st_drewN ?_ _ | refine Below.setCell ?_ (by first | omega | (simp; done) | (simp; omega)) _ | refine Below.alloc ?_ (by first | omega | (simp; done) | (simp; omega)) _))) (HRt.out _ (by repeat (first | exact Below.refl _ _ | assumption | refine st_drew ?_ | refine st_drewN ?_ _ | refine Below.setCell ?_ (by first | omega | (simp; done) | (simp; omega)) _ | refine Below.alloc ?_ (by first | omega | (simp; done) | (simp; omega)) _)))).mono ?_; rintro e w1 ⟨rfl, hq1⟩)
              go_roundw
              case rel => exact ⟨y.to + r, rfl, by omega, by omega, HO.out.below hq1 hz, onto hb hq1, Nat.lt_of_lt_of_le hz hq1.size, Or.inr (Or.inr ⟨rfl, HN.out⟩)⟩
              case measure => simp [intOf]
            · go_wp2_with (go_at_call 72; with_reducible refine (hK _ (HRo.out _ (by repeat (first | exact Below.refl _ _ | assumption | refine st_drew ?_ | refine st_drewN ?_ _ | refine Below.setCell ?_ (by first | omega | (simp; done) | (simp; omega)) _ | refine Below.alloc ?_ (by first | omega | (simp; done) | (simp; omega)) _))) (HRt.out _ (by repeat (first | exact Below.refl _ _ | assumption | refine st_drew ?_ | refine st_drewN ?_ _ | refine Below.setCell ?_ (by first | omega | (simp; done) | (simp; omega)) _ | refine Below.alloc ?_ (by first | omega | (simp; done) | (simp; omega)) _)))).mono ?_; rintro e w1 ⟨rfl, hq1⟩)
              go_roundw
              case rel => exact ⟨y.to + r, rfl, by omega, by omega, HO.out.below hq1 hz, onto hb hq1, Nat.lt_of_lt_of_le hz hq1.size, Or.inr (Or.inr ⟨rfl, HN.out⟩)⟩
              case measure => simp [intOf]
        · have HN := hidden hB
          clear hB hk
          go_wp2_with fail
          go_roundw
          case rel => exact ⟨(j + 1) + 1, b, by first | rfl | (congr 1; omega), rfl, by omega, HN.out, by omega, by omega, HO.out, hb, hz⟩
          case measure => first | (simp [intOf]; done) | (simp [intOf]; omega)
end Go.Proofs.Ytcapmobhgffnhaa
