/-
  Merged: Rm10.
-/
import Derived.Test.YtgcpiinmcbdkmaaMw20
namespace Go.Proofs.Ytgcpiinmcbdkmaa
open Go.RowKit Va Ms
set_option linter.all false
theorem nb_data (u : ByteArray) (i : Nat) (hi : i < u.size) : nb u i = (u.data.toList.getD i 0).toNat := by
  unfold nb
  show (u.data[i]!).toNat = _
  rw [getElem!_pos u.data i hi, List.getD_eq_getElem?_getD, Array.getElem?_toList, Array.getElem?_eq_getElem hi]
  rfl
theorem nb_ext {s : ByteArray} {p i : Nat} (h : p + i < s.size) : nb (s.extract p s.size) i = nb s (p + i) := by
  unfold nb
  show ((s.extract p s.size).data[i]!).toNat = (s.data[p + i]!).toNat
  have hl : s.data.size = s.size := rfl
  rw [ByteArray.data_extract, getElem!_pos _ _ (by rw [Array.size_extract]; omega), getElem!_pos _ _ (by omega), Array.getElem_extract]
theorem stands_ext {s : ByteArray} {p : Nat} (hp : p ≤ s.size) (l : List Nat) : Stands (s.extract p s.size) 0 l ↔ Stands s p l := by
  have hz : (s.extract p s.size).size = s.size - p := by rw [ByteArray.size_extract]; omega
  unfold Stands
  rw [hz]
  constructor
  · rintro ⟨h1, h2⟩
    refine ⟨by omega, fun i b hb => ?_⟩
    have hi := (List.getElem?_eq_some_iff.1 hb).1
    rw [← h2 i b hb, Nat.zero_add, nb_ext (by omega)]
  · rintro ⟨h1, h2⟩
    refine ⟨by omega, fun i b hb => ?_⟩
    have hi := (List.getElem?_eq_some_iff.1 hb).1
    rw [← h2 i b hb, Nat.zero_add, nb_ext (by omega)]
theorem escat_ext {s : ByteArray} {p : Nat} (hp : p ≤ s.size) (x : Nat) : EscAt (s.extract p s.size) 0 x ↔ EscAt s p x := by
  unfold EscAt; rw [stands_ext hp]
theorem bsOf_list (l : List Nat) : (bsOf l).data.toList = l.map Nat.toUInt8 := by simp [bsOf]
theorem u8_eq {b : UInt8} {n : Nat} (hn : n < 256) : b = n.toUInt8 ↔ b.toNat = n := by
  constructor
  · rintro rfl
    simp [Nat.toUInt8, UInt8.toNat_ofNat']; omega
  · intro h
    subst h
    exact (UInt8.ofNat_toNat (x := b)).symm
theorem prefix_stands {u : ByteArray} {l : List Nat} (hl : ∀ b ∈ l, b < 256) : Lib.hasPrefix u.data.toList (bsOf l).data.toList = true ↔ Stands u 0 l := by
  have hsz : u.size = u.data.toList.length := (Array.length_toList (xs := u.data)).symm
  unfold Lib.hasPrefix
  rw [List.isPrefixOf_iff_prefix, List.prefix_iff_getElem?, bsOf_list]
  unfold Stands
  constructor
  · intro h
    have hle : l.length ≤ u.size := by
      rcases Nat.lt_or_ge u.size l.length with q | q
      · exfalso
        have := h u.size (by rw [List.length_map]; exact q)
        rw [List.getElem?_eq_none (by omega)] at this
        cases this
      · exact q
    refine ⟨by omega, fun i b hb => ?_⟩
    obtain ⟨hi, he⟩ := List.getElem?_eq_some_iff.1 hb
    have := h i (by rw [List.length_map]; exact hi)
    rw [Nat.zero_add, nb_data u i (by omega), List.getD_eq_getElem?_getD, this]
    simp only [List.getElem_map, he, Option.getD_some]
    exact (u8_eq (hl b (List.mem_of_getElem? hb))).1 rfl
  · rintro ⟨h1, h2⟩ i hi
    rw [List.length_map] at hi
    have hb := h2 i l[i] (List.getElem?_eq_getElem hi)
    rw [Nat.zero_add, nb_data u i (by omega), List.getD_eq_getElem?_getD, List.getElem?_eq_getElem (show i < u.data.toList.length by omega), Option.getD_some] at hb
    rw [List.getElem?_eq_getElem (show i < u.data.toList.length by omega), List.getElem_map, (u8_eq (hl _ (List.getElem_mem hi))).2 hb]
theorem esc_bytes : ∀ x, x < 256 → ∀ b ∈ escL x, b < 256 := by decide +kernel
theorem esc_own3 : ∀ x, x < 256 → (escL x).length = 3 → x = 124 ∨ x = 92 ∨ x = 13 ∨ x = 10 := by decide +kernel
theorem esc_hex : ∀ x, x < 256 → (escL x).length = 5 → (escL x).getD 2 0 = hexN (x / 16) ∧ (escL x).getD 3 0 = hexN (x % 16) := by decide +kernel
theorem idx_hex : ∀ d, d < 16 → Lib.indexByte hexS.data.toList (hexN d).toUInt8 = d := by decide +kernel
theorem esc_len5 : ∀ x, x < 256 → (escL x).length = 1 ∨ (escL x).length = 3 ∨ (escL x).length = 5 := by decide +kernel
theorem five_stands {u : ByteArray} {x : Nat} (hu : 5 ≤ u.size) (hx : x < 256) : bsOf (escL x) = u.extract 0 5 ↔ (escL x).length = 5 ∧ Stands u 0 (escL x) := by
  have hz : (u.extract 0 5).size = 5 := by rw [ByteArray.size_extract]; omega
  have hbz : (bsOf (escL x)).size = (escL x).length := by show (bsOf (escL x)).data.size = _; rw [← Array.length_toList, bsOf_list, List.length_map]
  have hdat : (u.extract 0 5).data.toList = u.data.toList.take 5 := by simp [ByteArray.data_extract, Array.toList_extract]
  constructor
  · intro h
    have h5 : (escL x).length = 5 := by rw [← hbz, h, hz]
    refine ⟨h5, (prefix_stands (esc_bytes x hx)).1 ?_⟩
    unfold Lib.hasPrefix
    rw [List.isPrefixOf_iff_prefix, h, hdat]
    exact List.take_prefix _ _
  · rintro ⟨h5, h⟩
    have hp := (prefix_stands (esc_bytes x hx)).2 h
    unfold Lib.hasPrefix at hp
    rw [List.isPrefixOf_iff_prefix] at hp
    have e := List.prefix_iff_eq_take.1 hp
    apply ByteArray.ext
    apply Array.toList_inj.1
    rw [hdat, e]
    congr 1
    rw [bsOf_list, List.length_map, h5]
end Go.Proofs.Ytgcpiinmcbdkmaa
