/-
  ReadNumber, the specification's: the number of which this is the text.
-/
import Derived.Test.YtdnnenklkfkhcakDoorRd
namespace Go.Proofs.YtdnnenklkfkhcakDoor
open Go.RowKit Nb

theorem mkL_digit (k j : Nat) (hj : j < 9) : ∃ d, d < 10 ∧ (mkL k)[3 + j]? = some (ch d) := by
  have hj' : j = 0 ∨ j = 1 ∨ j = 2 ∨ j = 3 ∨ j = 4 ∨ j = 5 ∨ j = 6 ∨ j = 7 ∨ j = 8 := by omega
  rcases hj' with rfl | rfl | rfl | rfl | rfl | rfl | rfl | rfl | rfl <;> refine ⟨_, ?_, by simp [mkL, pad]; rfl⟩ <;> omega

def RdEnd (t : ByteArray) (w : World) (e : Ending) (w' : World) : Prop :=
  ∃ (n : Nat) (ok : Bool), e = .returned (.tuple #[.int .i64 n, .bool ok]) ∧ rdOk t.data.toList n ok ∧ Below w.heap.size w w'

theorem data_at (t : ByteArray) (i : Nat) (h : i < t.size) : t.data.toList[i]? = some t[i] := by
  have h' : i < t.data.size := h
  rw [Array.getElem?_toList, Array.getElem?_eq_getElem h']; rfl
theorem digit_step (t : ByteArray) (i n : Nat) (hi : 3 ≤ i) (h : i < t.size) (h48 : 48 ≤ t[i].toNat) (h57 : t[i].toNat ≤ 57)
    (H : (t.data.toList.drop 3).take (i - 3) = pad (i - 3) n) : (t.data.toList.drop 3).take (i + 1 - 3) = pad (i + 1 - 3) (n * 10 + (t[i].toNat - 48)) := by
  have e : i + 1 - 3 = i - 3 + 1 := by omega
  rw [e, List.take_add_one, H, List.getElem?_drop, show 3 + (i - 3) = i by omega, data_at t i h]
  rw [pad, show (n * 10 + (t[i].toNat - 48)) / 10 = n by omega, show (n * 10 + (t[i].toNat - 48)) % 10 = t[i].toNat - 48 by omega]
  congr 1
  simp only [Option.toList_some, List.cons.injEq, and_true]
  apply UInt8.toNat_inj.1
  rw [ch_toNat _ (by omega)]
  omega
theorem no_digit (t : ByteArray) (i : Nat) (hi : 3 ≤ i) (hi2 : i < 12) (h : i < t.size) (hd : t[i].toNat < 48 ∨ 57 < t[i].toNat) : rdOk t.data.toList 0 false :=
  rd_none _ (fun k _ e => by
    obtain ⟨d, hd1, hd2⟩ := mkL_digit k (i - 3) (by omega)
    rw [e, show 3 + (i - 3) = i by omega, data_at t i h] at hd2
    have := Option.some.inj hd2
    have e2 := ch_toNat d hd1
    rw [← this] at e2
    omega)
theorem pow_step (n i d : Nat) (hi : 3 ≤ i) (hd : d ≤ 9) (h : n < 10 ^ (i - 3)) : n * 10 + d < 10 ^ (i + 1 - 3) := by
  rw [show i + 1 - 3 = i - 3 + 1 by omega, Nat.pow_succ]; omega
theorem pow_nine (n i : Nat) (hi : i ≤ 12) (h : n < 10 ^ (i - 3)) : n < 1000000000 := by
  have : (10 : Nat) ^ (i - 3) ≤ 10 ^ 9 := Nat.pow_le_pow_right (by omega) (by omega)
  omega

set_option maxHeartbeats 1000000 in
theorem srd_any (t : ByteArray) (w : World) :
    Calls Tryd.prog 7 #[.string t] w fun e w' => RdEnd t w e w' := by
  by_cases hs : t.size = 14
  · have hsi : (t.size : Int) = 14 := by omega
    go_enter Tryd.func7, Tryd.ntmps7
    go_wp2
    go_loopw [4, 5] (fun a b wr => wr = w ∧ ∃ (i n : Nat), 3 ≤ i ∧ i ≤ 12 ∧ n < 1000000000 ∧ a = .int .i64 n ∧ b = .int .i64 i ∧ Hid (n < 10 ^ (i - 3) ∧ (t.data.toList.drop 3).take (i - 3) = pad (i - 3) n)) (fun _ b _ => 12 - (intOf b).toNat)
    case atStart => exact ⟨rfl, 3, 0, by omega, by omega, by omega, rfl, rfl, by simp [Hid, pad]⟩
    case round =>
      obtain ⟨rfl, i, n, hi3, hi12, hn9, rfl, rfl, H⟩ := hrel
      by_cases hlt : (i : Int) < 12
      · have hit : (i : Int) < 14 := by omega
        have hit2 : i < t.size := by omega
        by_cases h48 : (t[i].toNat : Int) < 48
        · have HN : Hid (rdOk t.data.toList 0 false) := no_digit t i hi3 (by omega) hit2 (by omega)
          go_wp2
          exact bodyPost_ret (v := .tuple #[.int .i64 0, .bool false]) (by simp [results, Tryd.results7, go_sem]) rfl ⟨0, false, rfl, HN.out, Below.refl _ _⟩
        by_cases h57 : (t[i].toNat : Int) > 57
        · have HN : Hid (rdOk t.data.toList 0 false) := no_digit t i hi3 (by omega) hit2 (by omega)
          go_wp2
          exact bodyPost_ret (v := .tuple #[.int .i64 0, .bool false]) (by simp [results, Tryd.results7, go_sem]) rfl ⟨0, false, rfl, HN.out, Below.refl _ _⟩
        have h1 : 48 ≤ t[i].toNat := by omega
        have h2 : t[i].toNat ≤ 57 := by omega
        have HS : Hid (n * 10 + (t[i].toNat - 48) < 10 ^ (i + 1 - 3) ∧ (t.data.toList.drop 3).take (i + 1 - 3) = pad (i + 1 - 3) (n * 10 + (t[i].toNat - 48))) :=
          ⟨pow_step n i _ hi3 (by omega) H.out.1, digit_step t i n hi3 hit2 h1 h2 H.out.2⟩
        have hn' : n * 10 + (t[i].toNat - 48) < 1000000000 := pow_nine _ (i + 1) (by omega) HS.out.1
        have HE : Hid (((n * 10 + (t[i].toNat - 48) : Nat) : Int) = (n : Int) * 10 + ((t[i].toNat : Int) - 48)) := by rw [Hid]; omega
        go_wp2
        go_roundw
        case rel => exact ⟨trivial, i + 1, n * 10 + (t[i].toNat - 48), by omega, by omega, hn', by rw [HE.out], rfl, HS⟩
        case measure => simp [intOf]; omega
      · have hi : i = 12 := by omega
        subst hi
        have hMK := smk_any n wr
        by_cases hm : mkS n = t
        · have HN : Hid (rdOk t.data.toList n true) := rd_some _ _ hn9 (by
            rw [← hm]; unfold mkS; rw [if_pos (by omega)]; rfl)
          rw [hm] at hMK
          clear hm
          go_wp2_with fail
          refine hMK.mono ?_
          rintro e w3 ⟨rfl, b3⟩
          go_wp2
          exact bodyPost_ret (v := .tuple #[.int .i64 n, .bool true]) (by simp [results, Tryd.results7, go_sem]) rfl ⟨n, true, rfl, HN.out, b3⟩
        · have HN : Hid (rdOk t.data.toList 0 false) := rd_none _ (fun k hk e => by
            obtain ⟨r, hr, hl, hp⟩ := mkL_head k
            have h1 := H.out.2
            rw [← e, hr] at h1
            have h2 : pad 9 k = pad 9 n := by rw [← hp]; exact h1
            have h3 := pad_inj 9 k n (by omega) (by omega) h2
            subst h3
            refine hm ?_
            unfold mkS
            rw [if_pos (by omega), Int.toNat_natCast, e])
          have hm2 : ((mkS n).toList == t.toList) = false := by
            rw [beq_eq_false_iff_ne]
            intro e
            rw [ByteArray.toList_eq, ByteArray.toList_eq] at e
            exact hm (ByteArray.ext (Array.toList_inj.1 e))
          clear hm
          generalize mkS n = M at *
          go_wp2_with fail
          refine hMK.mono ?_
          rintro e w3 ⟨rfl, b3⟩
          go_wp2
          exact bodyPost_ret (v := .tuple #[.int .i64 0, .bool false]) (by simp [results, Tryd.results7, go_sem]) rfl ⟨0, false, rfl, HN.out, b3⟩
  · have hsi : ¬ (t.size : Int) = 14 := by omega
    have HN : Hid (rdOk t.data.toList 0 false) := rd_none _ (fun k _ e => hs (by
      have := mkL_length k
      rw [e, Array.length_toList] at this
      exact this))
    go_enter Tryd.func7, Tryd.ntmps7
    go_wp2
    exact bodyPost_ret (v := .tuple #[.int .i64 0, .bool false]) (by simp [results, Tryd.results7, go_sem]) rfl ⟨0, false, rfl, HN.out, Below.refl _ _⟩
end Go.Proofs.YtdnnenklkfkhcakDoor
