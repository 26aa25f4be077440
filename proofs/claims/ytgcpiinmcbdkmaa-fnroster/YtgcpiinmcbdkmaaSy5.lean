/-
  Two runs rotated in place.
-/
import Derived.Test.YtgcpiinmcbdkmaaSy2
namespace Go.Proofs.Ytgcpiinmcbdkmaa
open Go.RowKit Go.WideShapes Va Lb Go.Maps Sy
set_option linter.all false

set_option maxRecDepth 20000 in
set_option maxHeartbeats 8000000 in
theorem rotate_any (G c n : Nat) (P X Y S : List Int) (fv : Value) (w : World) (h : SR c w G (P ++ X ++ Y ++ S)) (hn : (P ++ X ++ Y ++ S).length = n) (hl : n ≤ 1000) (hX : 0 < X.length) (hY : 0 < Y.length) :
    Calls Try.prog 176 #[.slice (some ⟨G, 0, none⟩) n c, .int .i64 P.length, .int .i64 (P.length + X.length : Nat), .int .i64 (P.length + X.length + Y.length : Nat), fv] w fun e w' => e = .returned (.tuple #[]) ∧ SR c w' G (P ++ Y ++ X ++ S) ∧ Below G w w' := by
  have hrot := rot_start P X Y S
  have hlr := rot_len hrot
  generalize hT : P ++ Y ++ X ++ S = T at *
  generalize hD : P ++ X ++ Y ++ S = D at *
  have HH := hidden h
  generalize hm : P.length + X.length = m at *
  have hi0 : IntKind.i64.wrap ((m : Int) - (P.length : Int)) = (X.length : Int) := by rw [IntKind.wrap_i64]; omega
  generalize X.length = x at *
  generalize Y.length = y at *
  generalize P.length = p at *
  obtain ⟨b9, hb9⟩ : ∃ b9, m + y = b9 := ⟨_, rfl⟩
  rw [hb9] at hlr ⊢
  have hj0 : IntKind.i64.wrap ((b9 : Int) - (m : Int)) = (y : Int) := by rw [IntKind.wrap_i64]; omega
  have hlb : b9 ≤ 1000 := by omega
  clear hb9
  have HR := hidden hrot
  have HN := hidden hn
  clear h hT hD hrot hn hm
  go_enter Try.func176, Try.ntmps176
  go_wp2_with fail
  go_loopw [10, 11] (fun iv jv wr => ∃ (i j : Nat) (d : List Int), iv = .int .i64 i ∧ jv = .int .i64 j ∧ 0 < i ∧ 0 < j ∧ Hid (Rot d T m i j) ∧ Hid (SR c wr G d) ∧ Hid (d.length = n) ∧ Below G w wr) (fun iv jv _ => (intOf iv).toNat + (intOf jv).toNat)
  case atStart => exact ⟨x, y, D, rfl, rfl, hX, hY, HR, HH, HN, Below.refl _ _⟩
  case round =>
    obtain ⟨i, j, d, rfl, rfl, hi, hj, hr, hs, hd, hb⟩ := hrel
    have hlen := rot_len hr.out
    have hd' := hd.out
    have hi1 : IntKind.i64.wrap ((m : Int) - (i : Int)) = ((m - i : Nat) : Int) := by rw [IntKind.wrap_i64]; omega
    have hi2 : IntKind.i64.wrap ((i : Int) - (j : Int)) = (i : Int) - (j : Int) := by rw [IntKind.wrap_i64]; omega
    have hi3 : IntKind.i64.wrap ((j : Int) - (i : Int)) = (j : Int) - (i : Int) := by rw [IntKind.wrap_i64]; omega
    have hi4 : IntKind.i64.wrap ((m : Int) + (j : Int)) = (m : Int) + (j : Int) := by rw [IntKind.wrap_i64]; omega
    have hi5 : IntKind.i64.wrap ((m : Int) + (j : Int) - (i : Int)) = (m : Int) + (j : Int) - (i : Int) := by rw [IntKind.wrap_i64]; omega
    by_cases heq : i = j
    · subst heq
      have hc := swaprange_any G c (m - i) m i d fv wr hs.out (by omega) (by omega) (by omega)
      rw [rot_end hr.out] at hc
      rw [hd'] at hc
      clear hlen hd'
      go_wp2_with (go_at_call 179; refine hc.mono ?_; rintro e w2 ⟨rfl, hs2, hb2⟩; have HS2 := hidden hs2; have bA := hb.trans hb2; clear hs2 hb2)
      go_end0
      exact ⟨rfl, HS2.out, bA⟩
    · have heqi : ¬ (i : Int) = (j : Int) := by omega
      by_cases hgt : j < i
      · have hgti : (j : Int) < (i : Int) := by omega
        have hc := swaprange_any G c (m - i) m j d fv wr hs.out (by omega) (by omega) (by omega)
        rw [hd'] at hc
        have HR2 := hidden (rot_gt hr.out hgt)
        have hl2 : Hid ((swR d (m - i) m j).length = n) := by rw [swR_len]; exact hd
        clear hlen hd'
        go_wp2_with (go_at_call 179; refine hc.mono ?_; rintro e w2 ⟨rfl, hs2, hb2⟩; have HS2 := hidden hs2; have bA := hb.trans hb2; clear hs2 hb2)
        go_roundw
        case rel => exact ⟨i - j, j, _, by congr 1; omega, rfl, by omega, hj, HR2, HS2, hl2, bA⟩
        case measure => simp [intOf]; omega
      · have hgti : ¬ (j : Int) < (i : Int) := by omega
        have hc := swaprange_any G c (m - i) (m + j - i) i d fv wr hs.out (by omega) (by omega) (by omega)
        rw [hd', show ((m + j - i : Nat) : Int) = (m : Int) + (j : Int) - (i : Int) from by omega] at hc
        have HR2 := hidden (rot_lt hr.out (by omega))
        have hl2 : Hid ((swR d (m - i) (m + j - i) i).length = n) := by rw [swR_len]; exact hd
        clear hlen hd'
        go_wp2_with (go_at_call 179; refine hc.mono ?_; rintro e w2 ⟨rfl, hs2, hb2⟩; have HS2 := hidden hs2; have bA := hb.trans hb2; clear hs2 hb2)
        go_roundw
        case rel => exact ⟨i, j - i, _, rfl, by congr 1; omega, hi, by omega, HR2, HS2, hl2, bA⟩
        case measure => simp [intOf]; omega
end Go.Proofs.Ytgcpiinmcbdkmaa
